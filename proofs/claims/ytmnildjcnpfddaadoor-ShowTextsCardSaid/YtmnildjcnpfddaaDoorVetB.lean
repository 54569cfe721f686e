/- Contract of the document's Check of layer 20. -/
import Derived.Test.YtmnildjcnpfddaaDoorRows
import Derived.Test.YtmnildjcnpfddaaDoorRowKit
import Derived.Test.YtmnildjcnpfddaaDoorRowS
import Derived.Test.YtmnildjcnpfddaaDoorRowZ
import Derived.Test.YtmnildjcnpfddaaDoorBlocks
import Derived.Test.YtmnildjcnpfddaaDoorVetA
import Derived.WalkKit
import Derived.IntWalk
import Derived.Lib.Hide
import Derived.Lib.SmallJoins
import Derived.WalkSpells
import Derived.WalkLawsBesides
import Derived.Deep.QuietTactic
import Derived.Deep.RegionHeld3
import Derived.BigQuiet
import Derived.Below
import Derived.Lib.Strings
namespace Go.Proofs.YtmnildjcnpfddaaDoor
open Go.RowKit
set_option linter.unusedSimpArgs false
set_option linter.unusedVariables false
/-- a scenario's numbers, in the order in which they are looked at; of which name each is -/
def numV (s0 s1 s2 s3 s4 s5 s6 s7 s10 s11 s12 : Int) : Nat → Int
  | 0 => s0
  | 1 => s1
  | 2 => s2
  | 3 => s3
  | 4 => s4
  | 5 => s5
  | 6 => s6
  | 7 => s7
  | 8 => s10
  | 9 => s11
  | 10 => s12
  | _ => 0
def nmX : Nat → Nat
  | 0 => 0
  | 1 => 1
  | 2 => 2
  | 3 => 3
  | 4 => 4
  | 5 => 5
  | 6 => 6
  | 7 => 7
  | 8 => 9
  | 9 => 11
  | 10 => 12
  | _ => 0
theorem nmX_lt : ∀ k, k < 11 → nmX k < 13 := by decide
def NumsOk (x : Nat → Int) (k : Nat) : Prop := ∀ j, j < k → inV (nmX j) (x j) = true
theorem numsOk_succ {x : Nat → Int} {k : Nat} (h : NumsOk x k) (h' : inV (nmX k) (x k) = true) : NumsOk x (k + 1) := fun j hj => by
  by_cases e : j = k
  · rw [e]; exact h'
  · exact h j (by omega)
/-- what is wrong with a segment -/
def segE (k t r : Int) : Int := if k < 1 ∨ 4 < k then 260 else if inV 8 t = false ∨ inV 10 r = false then 264 else 0
def segsS (f : Nat → Int) : Nat → Int
  | 0 => 0
  | k + 1 => if segsS f k ≠ 0 then segsS f k else f k
def segsE (z : Nat → Nat → Int) (k : Nat) : Int := segsS (fun i => segE (z i 0) (z i 1) (z i 2)) k
theorem segs_zero (z : Nat → Nat → Int) : segsE z 0 = 0 := rfl
theorem segs_next {z : Nat → Nat → Int} {k : Nat} (h : segsE z k = 0) : segsE z (k + 1) = segE (z k 0) (z k 1) (z k 2) := by
  show (if segsE z k ≠ 0 then segsE z k else _) = _
  rw [if_neg (by rw [h]; decide)]
theorem segs_stay {z : Nat → Nat → Int} {k : Nat} (h : segsE z k ≠ 0) : ∀ n, k ≤ n → segsE z n = segsE z k
  | 0, hn => by obtain rfl : k = 0 := by omega
                rfl
  | n + 1, hn => by
    by_cases e : k = n + 1
    · rw [e]
    · have ih := segs_stay h n (by omega)
      show (if segsE z n ≠ 0 then segsE z n else _) = _
      rw [if_pos (by rw [ih]; exact h), ih]
open Classical in
/-- the answer: an error, else 0 -/
noncomputable def ckA (x : Nat → Int) (d : Int) (n : Nat) (z : Nat → Nat → Int) : Int :=
  if ¬ NumsOk x 11 then 264 else if d < 1 ∨ 4 < d then 260 else if n = 0 then 263 else if 8 < n then 21 else segsE z n
theorem ck_num {x : Nat → Int} {d : Int} {n k : Nat} {z : Nat → Nat → Int} (hk : k < 11) (h : inV (nmX k) (x k) = false) : ckA x d n z = 264 := by
  unfold ckA; rw [if_pos (fun c => by have := c k hk; rw [h] at this; cases this)]
theorem ck_dis {x : Nat → Int} {d : Int} {n : Nat} {z : Nat → Nat → Int} (h : NumsOk x 11) (hd : d < 1 ∨ 4 < d) : ckA x d n z = 260 := by
  unfold ckA; rw [if_neg (fun c => c h), if_pos hd]
theorem ck_lack {x : Nat → Int} {d : Int} {n : Nat} {z : Nat → Nat → Int} (h : NumsOk x 11) (hd : ¬ (d < 1 ∨ 4 < d)) (hn : n = 0) : ckA x d n z = 263 := by
  unfold ckA; rw [if_neg (fun c => c h), if_neg hd, if_pos hn]
theorem ck_size {x : Nat → Int} {d : Int} {n : Nat} {z : Nat → Nat → Int} (h : NumsOk x 11) (hd : ¬ (d < 1 ∨ 4 < d)) (hn : 8 < n) : ckA x d n z = 21 := by
  unfold ckA; rw [if_neg (fun c => c h), if_neg hd, if_neg (by omega), if_pos hn]
theorem ck_seg {x : Nat → Int} {d : Int} {n : Nat} {z : Nat → Nat → Int} (h : NumsOk x 11) (hd : ¬ (d < 1 ∨ 4 < d)) (hn : ¬ n = 0) (hn' : ¬ 8 < n) : ckA x d n z = segsE z n := by
  unfold ckA; rw [if_neg (fun c => c h), if_neg hd, if_neg hn, if_neg hn']
theorem ck_ok {x : Nat → Int} {d : Int} {n : Nat} {z : Nat → Nat → Int} (h : ckA x d n z = 0) : NumsOk x 11 := by
  refine Classical.byContradiction fun c => ?_
  unfold ckA at h; rw [if_pos c] at h; cases h
/-- the memory of a check: the scenario, the names, the numbers -/
def CT (w : World) (g : Nat) (F : Array Value) (x : Nat → Int) : Prop := (∀ j v, F[j]? = some v → w.cell? ⟨g, j, none⟩ = some v) ∧ (∀ j, j < 11 → w.cell? ⟨g + 1, j, none⟩ = some (.string (nm (nmX j)))) ∧ (∀ j, j < 11 → w.cell? ⟨g + 2, j, none⟩ = some (.int .i64 (x j)))
theorem CT.next {w w' : World} {g : Nat} {F : Array Value} {x : Nat → Int} (h : CT w g F x) (hb : Below w.heap.size w w') : CT w' g F x :=
  ⟨fun j v hv => keepv hb (h.1 j v hv), fun j hj => keepv hb (h.2.1 j hj), fun j hj => keepv hb (h.2.2 j hj)⟩
theorem ct_start (w : World) (F : Array Value) (s0 s1 s2 s3 s4 s5 s6 s7 s10 s11 s12 : Int) (T U V : TypeId) : CT (((w.alloc (.cells F T)).alloc (.cells #[.string ⟨#[102, 108, 111, 111, 114, 115]⟩, .string ⟨#[103, 97, 112]⟩, .string ⟨#[99, 97, 114, 115]⟩, .string ⟨#[99, 97, 112, 97, 99, 105, 116, 121]⟩, .string ⟨#[111, 112, 101, 110]⟩, .string ⟨#[100, 119, 101, 108, 108]⟩, .string ⟨#[99, 108, 111, 115, 101]⟩, .string ⟨#[116, 114, 97, 110, 115, 102, 101, 114]⟩, .string ⟨#[104, 111, 114, 105, 122, 111, 110]⟩, .string ⟨#[98, 105, 110, 115]⟩, .string ⟨#[119, 105, 100, 116, 104]⟩] U)).alloc (.cells #[.int .i64 s0, .int .i64 s1, .int .i64 s2, .int .i64 s3, .int .i64 s4, .int .i64 s5, .int .i64 s6, .int .i64 s7, .int .i64 s10, .int .i64 s11, .int .i64 s12] V)) w.heap.size F (numV s0 s1 s2 s3 s4 s5 s6 s7 s10 s11 s12) := by
  refine ⟨fun j v hv => ?_, fun j hj => ?_, fun j hj => ?_⟩
  · rw [(((Blk.new w F T).alloc _).alloc _).cell j]; exact hv
  · have h := (Blk.new (w.alloc (.cells F T)) #[.string ⟨#[102, 108, 111, 111, 114, 115]⟩, .string ⟨#[103, 97, 112]⟩, .string ⟨#[99, 97, 114, 115]⟩, .string ⟨#[99, 97, 112, 97, 99, 105, 116, 121]⟩, .string ⟨#[111, 112, 101, 110]⟩, .string ⟨#[100, 119, 101, 108, 108]⟩, .string ⟨#[99, 108, 111, 115, 101]⟩, .string ⟨#[116, 114, 97, 110, 115, 102, 101, 114]⟩, .string ⟨#[104, 111, 114, 105, 122, 111, 110]⟩, .string ⟨#[98, 105, 110, 115]⟩, .string ⟨#[119, 105, 100, 116, 104]⟩] U).alloc (.cells #[.int .i64 s0, .int .i64 s1, .int .i64 s2, .int .i64 s3, .int .i64 s4, .int .i64 s5, .int .i64 s6, .int .i64 s7, .int .i64 s10, .int .i64 s11, .int .i64 s12] V)
    rw [World.size_alloc] at h
    rw [h.cell j]
    match j, hj with
    | 0, _ => rfl
    | 1, _ => rfl
    | 2, _ => rfl
    | 3, _ => rfl
    | 4, _ => rfl
    | 5, _ => rfl
    | 6, _ => rfl
    | 7, _ => rfl
    | 8, _ => rfl
    | 9, _ => rfl
    | 10, _ => rfl
  · have h := Blk.new ((w.alloc (.cells F T)).alloc (.cells #[.string ⟨#[102, 108, 111, 111, 114, 115]⟩, .string ⟨#[103, 97, 112]⟩, .string ⟨#[99, 97, 114, 115]⟩, .string ⟨#[99, 97, 112, 97, 99, 105, 116, 121]⟩, .string ⟨#[111, 112, 101, 110]⟩, .string ⟨#[100, 119, 101, 108, 108]⟩, .string ⟨#[99, 108, 111, 115, 101]⟩, .string ⟨#[116, 114, 97, 110, 115, 102, 101, 114]⟩, .string ⟨#[104, 111, 114, 105, 122, 111, 110]⟩, .string ⟨#[98, 105, 110, 115]⟩, .string ⟨#[119, 105, 100, 116, 104]⟩] U)) #[.int .i64 s0, .int .i64 s1, .int .i64 s2, .int .i64 s3, .int .i64 s4, .int .i64 s5, .int .i64 s6, .int .i64 s7, .int .i64 s10, .int .i64 s11, .int .i64 s12] V
    rw [World.size_alloc, World.size_alloc] at h
    rw [h.cell j]
    match j, hj with
    | 0, _ => rfl
    | 1, _ => rfl
    | 2, _ => rfl
    | 3, _ => rfl
    | 4, _ => rfl
    | 5, _ => rfl
    | 6, _ => rfl
    | 7, _ => rfl
    | 8, _ => rfl
    | 9, _ => rfl
    | 10, _ => rfl
theorem rin_ticks (x : Int) (w : World) : Calls Tryd.prog 23 #[.string ⟨#[116, 105, 99, 107, 115]⟩, .int .i64 x] w fun e w' => e = .returned (.bool (inV 8 x)) ∧ Below w.heap.size w w' := rin_at 8 x w (by decide)
theorem rin_rate (x : Int) (w : World) : Calls Tryd.prog 23 #[.string ⟨#[114, 97, 116, 101]⟩, .int .i64 x] w fun e w' => e = .returned (.bool (inV 10 x)) ∧ Below w.heap.size w w' := rin_at 10 x w (by decide)
set_option maxHeartbeats 4000000 in
theorem rcheck_any (s0 s1 s2 s3 s4 s5 s6 s7 s9 s10 s11 s12 : Int) (A : Option Addr) (n c : Nat) (z : Nat → Nat → Int) (w : World) (hr : RdZ w 3 A n z) (hm : n ≤ 9223372036854775807) :
    Calls Tryd.prog 15 #[.agg #[.int .i64 s0, .int .i64 s1, .int .i64 s2, .int .i64 s3, .int .i64 s4, .int .i64 s5, .int .i64 s6, .int .i64 s7, .slice A n c, .int .i64 s9, .int .i64 s10, .int .i64 s11, .int .i64 s12]] w fun e w' => e = .returned (.int .i64 (ckA (numV s0 s1 s2 s3 s4 s5 s6 s7 s10 s11 s12) s9 n z)) ∧ Below w.heap.size w w' := by
  have ST := Lib.hid (ct_start w #[(.int .i64 s0 : Value), .int .i64 s1, .int .i64 s2, .int .i64 s3, .int .i64 s4, .int .i64 s5, .int .i64 s6, .int .i64 s7, .slice A n c, .int .i64 s9, .int .i64 s10, .int .i64 s11, .int .i64 s12] s0 s1 s2 s3 s4 s5 s6 s7 s10 s11 s12)
  obtain ⟨x, hx⟩ : ∃ x, numV s0 s1 s2 s3 s4 s5 s6 s7 s10 s11 s12 = x := ⟨_, rfl⟩
  rw [hx] at ST ⊢
  clear hx
  go_enter Tryd.func15, Tryd.ntmps15
  go_wp2_with fail
  go_loopw [5] (fun i wr => ∃ k : Nat, k ≤ 11 ∧ i = .int .i64 k ∧ Hid (NumsOk x k) ∧ Hid (CT wr w.heap.size #[(.int .i64 s0 : Value), .int .i64 s1, .int .i64 s2, .int .i64 s3, .int .i64 s4, .int .i64 s5, .int .i64 s6, .int .i64 s7, .slice A n c, .int .i64 s9, .int .i64 s10, .int .i64 s11, .int .i64 s12] x) ∧ Below w.heap.size w wr) (fun i _ => 11 - (intOf i).toNat)
  case atStart => exact ⟨0, by omega, rfl, Lib.hid (fun j hj => absurd hj (by omega)), ST.out _ _ _, Joins.below_alloc3 w _ _ _⟩
  case round =>
    obtain ⟨k, hk, rfl, HN, HC, hb⟩ := hrel
    by_cases h : k < 11
    · have cn := HC.out.2.1 k h
      have cx := HC.out.2.2 k h
      have I := fun W => rin_at (nmX k) (x k) W (nmX_lt k h)
      have NX := Lib.hid (fun h' => numsOk_succ HN.out (k := k) h')
      have NO := Lib.hid (fun (h' : inV (nmX k) (x k) = false) => ck_num (d := s9) (n := n) (z := z) h h')
      obtain ⟨sv, hs⟩ : ∃ y, nm (nmX k) = y := ⟨_, rfl⟩
      obtain ⟨xv, hxv⟩ : ∃ y, x k = y := ⟨_, rfl⟩
      obtain ⟨b, hbv⟩ : ∃ y, inV (nmX k) (x k) = y := ⟨_, rfl⟩
      rw [hbv] at NO NX
      rw [hs, hxv] at I
      rw [hs] at cn
      rw [hxv] at cx hbv
      rw [hbv] at I
      have HI := Lib.hid I
      have k0 : (0 : Int) ≤ (k : Int) := Int.natCast_nonneg _
      have k1 : (k : Int) < 11 := by omega
      clear I hs hxv hbv
      cases b
      all_goals
        go_wp2_with fail
        go_region_held3 (fun W => W.cell? ⟨w.heap.size + 1, k, none⟩ = some (.string sv) ∧ W.cell? ⟨w.heap.size + 1 + 1, k, none⟩ = some (.int .i64 xv))
          (go_keep)
          (first | (go_at_call 23; refine (HI.out _).mono ?_; rintro e w1 ⟨rfl, hb1⟩; have n0 := Lib.hid (keepv hb1 cn); have n1 := Lib.hid (keepv hb1 cx); clear cn cx; have cn := n0.out; have cx := n1.out))
        have q1 : Below w.heap.size w w1 := (hb.drew).trans (hb1.mono (hb.drew).size)
        have HC2 := Lib.hid (CT.next (w := wr.drew) HC.out hb1)
        go_wp2_with fail
      · go_ret
        exact ⟨vretI (by rw [NO.out (by first | rfl | trivial)]), q1⟩
      · go_roundw
        case rel => exact ⟨k + 1, by omega, by go_num, Lib.hid (NX.out (by first | rfl | trivial)), HC2, q1⟩
        case measure => simp [intOf]; omega
    · obtain rfl : k = 11 := by omega
      have l8 := HC.out.1 8 _ rfl
      have l9 := HC.out.1 9 _ rfl
      by_cases d1 : s9 < 1
      · have E := Lib.hid (ck_dis (n := n) (z := z) HN.out (.inl d1))
        go_wp2_with fail
        go_ret
        exact ⟨vretI (by rw [E.out]), hb⟩
      by_cases d2 : 4 < s9
      · have E := Lib.hid (ck_dis (n := n) (z := z) HN.out (.inr d2))
        go_wp2_with fail
        go_ret
        exact ⟨vretI (by rw [E.out]), hb⟩
      have D := Lib.hid (show ¬ (s9 < 1 ∨ 4 < s9) by omega)
      by_cases n0 : n = 0
      · have E := Lib.hid (ck_lack (z := z) HN.out D.out n0)
        have b0 : (n == 0) = true := by rw [beq_iff_eq]; exact n0
        have b1 : ((n : Int) == 0) = true := by rw [beq_iff_eq]; omega
        clear n0
        go_wp2_with fail
        go_ret
        exact ⟨vretI (by rw [E.out]), hb⟩
      have b0 : (n == 0) = false := by rw [beq_eq_false_iff_ne]; exact n0
      have b1 : ((n : Int) == 0) = false := by rw [beq_eq_false_iff_ne]; omega
      by_cases n8 : 8 < n
      · have E := Lib.hid (ck_size (z := z) HN.out D.out n8)
        clear n0
        go_wp2_with fail
        go_ret
        exact ⟨vretI (by rw [E.out]), hb⟩
      have E := Lib.hid (ck_seg (z := z) HN.out D.out n0 n8)
      clear n0
      go_wp2_with fail
      obtain ⟨wo, rfl⟩ : ∃ wo : World, wo = wr := ⟨_, rfl⟩
      go_loopw [6] (fun i wq => ∃ k : Nat, k ≤ n ∧ i = .int .i64 k ∧ Hid (segsE z k = 0) ∧ Hid (wq.cell? ⟨w.heap.size, 8, none⟩ = some (.slice A n c)) ∧ Below w.heap.size w wq) (fun i _ => n - (intOf i).toNat)
      case atStart => exact ⟨0, by omega, rfl, Lib.hid (segs_zero z), Lib.hid l8, hb⟩
      case round =>
        clear l8 l9 hb
        obtain ⟨k, hk, rfl, HS, HL, hb⟩ := hrel
        have l8 := HL.out
        by_cases h : k < n
        · obtain ⟨b, off, rfl, hlt, hc⟩ := rdZ_row (hr.kept hb) (by omega) (by omega)
          have c0 : wr.cell? ⟨b, off + k * 3, none⟩ = _ := hc k 0 h (by omega)
          have c1 := hc k 1 h (by omega)
          have c2 := hc k 2 h (by omega)
          clear hc
          have B1 := Lib.hid (hb.alloc hb.size (.cells #[.int .i64 (z k 0), .int .i64 (z k 1), .int .i64 (z k 2)] 42))
          have N1 := segs_next HS.out
          have BAD := Lib.hid (show ∀ v : Int, v ≠ 0 → segE (z k 0) (z k 1) (z k 2) = v → segsE z n = v from fun v hv he => by rw [segs_stay (k := k + 1) (by rw [N1, he]; exact hv) n (by omega), N1, he])
          have GOOD := Lib.hid (show segE (z k 0) (z k 1) (z k 2) = 0 → segsE z (k + 1) = 0 from fun he => by rw [N1, he])
          clear N1
          by_cases e1 : z k 0 < 1
          · have F := Lib.hid (BAD.out 260 (by decide) (by unfold segE; rw [if_pos (.inl e1)]))
            go_wp2_with fail
            go_ret
            exact ⟨vretI (by rw [E.out, F.out]), B1.out⟩
          by_cases e2 : 4 < z k 0
          · have F := Lib.hid (BAD.out 260 (by decide) (by unfold segE; rw [if_pos (.inr e2)]))
            go_wp2_with fail
            go_ret
            exact ⟨vretI (by rw [E.out, F.out]), B1.out⟩
          have I1 := fun W => rin_ticks (z k 1) W
          have I2 := fun W => rin_rate (z k 2) W
          have KD : Hid (∀ v, (inV 8 (z k 1) = false ∨ inV 10 (z k 2) = false → v = (264 : Int)) → (¬ (inV 8 (z k 1) = false ∨ inV 10 (z k 2) = false) → v = 0) → segE (z k 0) (z k 1) (z k 2) = v) := Lib.hid (fun v h1 h2 => by
            unfold segE
            rw [if_neg (by omega)]
            by_cases c : inV 8 (z k 1) = false ∨ inV 10 (z k 2) = false
            · rw [if_pos c, h1 c]
            · rw [if_neg c, h2 c])
          obtain ⟨x1, hx1⟩ : ∃ y, inV 8 (z k 1) = y := ⟨_, rfl⟩
          obtain ⟨x2, hx2⟩ : ∃ y, inV 10 (z k 2) = y := ⟨_, rfl⟩
          rw [hx1] at I1 KD
          rw [hx2] at I2 KD
          have H1 := Lib.hid I1
          have H2 := Lib.hid I2
          clear I1 I2 hx1 hx2
          cases x1
          · have F := Lib.hid (BAD.out 264 (by decide) (KD.out 264 (fun _ => rfl) (fun c => absurd (.inl rfl) c)))
            go_wp2_with fail
            refine (H1.out _).mono ?_
            rintro e w1 ⟨rfl, hb1⟩
            have g1 := B1.out.trans (Joins.below_le hb1 B1.out.size)
            go_wp2_with fail
            go_ret
            exact ⟨vretI (by rw [E.out, F.out]), g1⟩
          · cases x2
            · have F := Lib.hid (BAD.out 264 (by decide) (KD.out 264 (fun _ => rfl) (fun c => absurd (.inr rfl) c)))
              go_wp2_with fail
              refine (H1.out _).mono ?_
              rintro e w1 ⟨rfl, hb1⟩
              have g1 := B1.out.trans (Joins.below_le hb1 B1.out.size)
              have m2 := keepv hb1 (b := wr.heap.size) (o := 2) (v := .int .i64 (z k 2)) (by rw [World.cell?_alloc_mark]; rfl)
              go_wp2_with fail
              refine (H2.out _).mono ?_
              rintro e w2 ⟨rfl, hb2⟩
              have g2 := g1.trans (Joins.below_le hb2 g1.size)
              go_wp2_with fail
              go_ret
              exact ⟨vretI (by rw [E.out, F.out]), g2⟩
            · have F := Lib.hid (GOOD.out (KD.out 0 (fun c => by rcases c with c | c <;> cases c) (fun _ => rfl)))
              go_wp2_with fail
              refine (H1.out _).mono ?_
              rintro e w1 ⟨rfl, hb1⟩
              have g1 := B1.out.trans (Joins.below_le hb1 B1.out.size)
              have m2 := keepv hb1 (b := wr.heap.size) (o := 2) (v := .int .i64 (z k 2)) (by rw [World.cell?_alloc_mark]; rfl)
              have l8' := Lib.hid (keepv hb1 (keepv (Joins.below_alloc1 wr (.cells #[.int .i64 (z k 0), .int .i64 (z k 1), .int .i64 (z k 2)] 42)) l8))
              go_wp2_with fail
              refine (H2.out _).mono ?_
              rintro e w2 ⟨rfl, hb2⟩
              have g2 := g1.trans (Joins.below_le hb2 g1.size)
              have l8'' := Lib.hid (keepv hb2 l8'.out)
              go_wp2_with fail
              go_roundw
              case rel => exact ⟨k + 1, by omega, by go_num, F, l8'', g2⟩
              case measure => simp [intOf]; omega
        · obtain rfl : k = n := by omega
          go_wp2_with fail
          go_ret
          exact ⟨vretI (by rw [E.out, HS.out]), hb⟩
end Go.Proofs.YtmnildjcnpfddaaDoor
