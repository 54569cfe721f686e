/- Trips that have become others, by their numbers. -/
import Derived.Test.YtodfjghgcphhhabRows
import Derived.Test.YtodfjghgcphhhabRowKit
import Derived.Test.YtodfjghgcphhhabRowS
import Derived.Test.YtodfjghgcphhhabRowZ
import Derived.Test.YtodfjghgcphhhabSlicesEq
import Derived.Test.YtodfjghgcphhhabSlicesEqM
import Derived.Test.YtodfjghgcphhhabRowL
import Derived.Test.YtodfjghgcphhhabMakeI
import Derived.Test.YtodfjghgcphhhabBlocks
import Derived.Test.YtodfjghgcphhhabAtKit
import Derived.Test.YtodfjghgcphhhabShelf
import Derived.WalkKit
import Derived.IntWalk
import Derived.Lib.Hide
import Derived.WalkSpells
import Derived.WalkLawsBesides
import Derived.OwnWalk
import Derived.Deep.QuietTactic
import Derived.BigQuiet
import Derived.Deep.RegionHeld3
import Derived.Deep.LoopGhost
import Derived.BigRegion
import Derived.Below
import Derived.Laws.CopyOwn
import Derived.Laws.MakeOwn
import Derived.Laws.OwnMore
import Derived.Maps.OwnSet
import Derived.Maps.OwnOps
import Derived.Maps.Views
import Derived.Maps.AppendAt
namespace Go.Proofs.Ytodfjghgcphhhab
open Go.RowKit Go.Maps
set_option linter.unusedSimpArgs false
set_option linter.unusedVariables false
set_option maxRecDepth 100000 in
set_option maxHeartbeats 1000000 in
theorem trip_ne (x0 x1 x2 x3 x4 x5 x6 y0 y1 y2 y3 y4 y5 y6 : Int) (W : World) (h : ¬ (x0 = y0 ∧ x1 = y1 ∧ x2 = y2 ∧ x3 = y3 ∧ x4 = y4 ∧ x5 = y5 ∧ x6 = y6)) :
    (binOp .neq 34 (.agg #[.int .i64 x0, .int .i64 x1, .int .i64 x2, .int .i64 x3, .int .i64 x4, .int .i64 x5, .int .i64 x6]) (.agg #[.int .i64 y0, .int .i64 y1, .int .i64 y2, .int .i64 y3, .int .i64 y4, .int .i64 y5, .int .i64 y6])).run Try.prog W = .ok (.bool true) W := by
  by_cases h0 : x0 = y0
  case neg =>
    have b : (x0 == y0) = false := by simpa using h0
    clear h h0
    go_simp
  subst h0
  by_cases h1 : x1 = y1
  case neg =>
    have b : (x1 == y1) = false := by simpa using h1
    clear h h1
    go_simp
  subst h1
  by_cases h2 : x2 = y2
  case neg =>
    have b : (x2 == y2) = false := by simpa using h2
    clear h h2
    go_simp
  subst h2
  by_cases h3 : x3 = y3
  case neg =>
    have b : (x3 == y3) = false := by simpa using h3
    clear h h3
    go_simp
  subst h3
  by_cases h4 : x4 = y4
  case neg =>
    have b : (x4 == y4) = false := by simpa using h4
    clear h h4
    go_simp
  subst h4
  by_cases h5 : x5 = y5
  case neg =>
    have b : (x5 == y5) = false := by simpa using h5
    clear h h5
    go_simp
  subst h5
  by_cases h6 : x6 = y6
  case neg =>
    have b : (x6 == y6) = false := by simpa using h6
    clear h h6
    go_simp
  subst h6
  exact absurd ⟨rfl, rfl, rfl, rfl, rfl, rfl, rfl⟩ h
set_option maxRecDepth 100000 in
theorem trip_same (x0 x1 x2 x3 x4 x5 x6 : Int) (W : World) : (binOp .neq 34 (.agg #[.int .i64 x0, .int .i64 x1, .int .i64 x2, .int .i64 x3, .int .i64 x4, .int .i64 x5, .int .i64 x6]) (.agg #[.int .i64 x0, .int .i64 x1, .int .i64 x2, .int .i64 x3, .int .i64 x4, .int .i64 x5, .int .i64 x6])).run Try.prog W = .ok (.bool false) W := by go_simp
/-- an element, as it lies -/
def heldR (v : Value) : Option (DataW Value × List MemPlace) := some (.held v, [])
abbrev MapV := DataW Value
theorem idLaw : Keyed Try.prog 3 := int_keyed Try.underlying3
def okI (a : Int) : Prop := (Lit.int .i64 a).wf = true
theorem id_key {a : Int} (h : okI a) : keyOf Try.prog 3 (.int .i64 a) = some (.int .i64 a) := keyOf_int_mk Try.underlying3 h
def tripV (z : Nat → Nat → Int) (i : Nat) : Value := .agg #[.int .i64 (z i 0), .int .i64 (z i 1), .int .i64 (z i 2), .int .i64 (z i 3), .int .i64 (z i 4), .int .i64 (z i 5), .int .i64 (z i 6)]
def zeroT : Value := .agg #[.int .i64 0, .int .i64 0, .int .i64 0, .int .i64 0, .int .i64 0, .int .i64 0, .int .i64 0]
theorem zeroTrip (w : World) : (zeroValue 34).run Try.prog w = .ok zeroT w := by kernel_rfl
/-- the number behind the last trip of a number; 0: there is none -/
def lastT (z : Nat → Nat → Int) (id : Int) : Nat → Nat
  | 0 => 0
  | n + 1 => if z n 0 = id then n + 1 else lastT z id n
theorem lastT_succ (z : Nat → Nat → Int) (id : Int) (n : Nat) : lastT z id (n + 1) = if z n 0 = id then n + 1 else lastT z id n := rfl
theorem lastT_le (z : Nat → Nat → Int) (id : Int) : ∀ n, lastT z id n ≤ n
  | 0 => Nat.le_refl _
  | n + 1 => by have := lastT_le z id n; rw [lastT_succ]; split <;> omega
def chD (z : Nat → Nat → Int) : Nat → MapV
  | 0 => .map []
  | n + 1 => (chD z n).put (.int .i64 (z n 0)) (.held (tripV z n))
theorem chD_succ (z : Nat → Nat → Int) (n : Nat) : chD z (n + 1) = (chD z n).put (.int .i64 (z n 0)) (.held (tripV z n)) := rfl
theorem isMap_put {D : MapV} (h : IsMap D) (k : Lit) (d : MapV) : IsMap (D.put k d) := by
  obtain ⟨es, rfl⟩ := h
  exact ⟨_, rfl⟩
theorem chD_map (z : Nat → Nat → Int) : ∀ n, IsMap (chD z n)
  | 0 => ⟨_, rfl⟩
  | n + 1 => isMap_put (chD_map z n) _ _
theorem isKey_int (a : Int) : WideAt.IsKeyLit (.int .i64 a) := by trivial
theorem chD_at (z : Nat → Nat → Int) (id : Int) : ∀ n, (chD z n).atKey (.int .i64 id) (.held zeroT) = .held (if lastT z id n = 0 then zeroT else tripV z (lastT z id n - 1)) ∧ has (chD z n) (.int .i64 id) = decide (0 < lastT z id n)
  | 0 => ⟨rfl, rfl⟩
  | n + 1 => by
    obtain ⟨h1, h2⟩ := chD_at z id n
    rw [chD_succ, lastT_succ]
    by_cases e : z n 0 = id
    · rw [if_pos e, e, atKey_put_same (chD_map z n) (isKey_int id), has_put_same (chD_map z n) (isKey_int id), if_neg (by omega)]
      simp
    · have hne : (Lit.int .i64 id) ≠ .int .i64 (z n 0) := fun q => e (by injection q with _ q; exact q.symm)
      rw [if_neg e, atKey_put_other hne, has_put_other hne]
      exact ⟨h1, h2⟩
/-- do two trips differ? -/
def neT (z : Nat → Nat → Int) (i : Nat) (z' : Nat → Nat → Int) (k : Nat) : Prop := ¬ (z i 0 = z' k 0 ∧ z i 1 = z' k 1 ∧ z i 2 = z' k 2 ∧ z i 3 = z' k 3 ∧ z i 4 = z' k 4 ∧ z i 5 = z' k 5 ∧ z i 6 = z' k 6)
instance (z : Nat → Nat → Int) (i : Nat) (z' : Nat → Nat → Int) (k : Nat) : Decidable (neT z i z' k) := by unfold neT; infer_instance
/-- the numbers of those of a row that have become others -/
def chL (z : Nat → Nat → Int) (n : Nat) (z' : Nat → Nat → Int) : Nat → List Int
  | 0 => []
  | k + 1 => if 0 < lastT z (z' k 0) n ∧ neT z (lastT z (z' k 0) n - 1) z' k then chL z n z' k ++ [z' k 0] else chL z n z' k
theorem chL_succ (z : Nat → Nat → Int) (n : Nat) (z' : Nat → Nat → Int) (k : Nat) : chL z n z' (k + 1) = if 0 < lastT z (z' k 0) n ∧ neT z (lastT z (z' k 0) n - 1) z' k then chL z n z' k ++ [z' k 0] else chL z n z' k := rfl
theorem chL_len (z : Nat → Nat → Int) (n : Nat) (z' : Nat → Nat → Int) : ∀ k, (chL z n z' k).length ≤ k
  | 0 => by simp [chL]
  | k + 1 => by
    have := chL_len z n z' k
    rw [chL_succ]
    split
    · rw [List.length_append]; simp; omega
    · omega
theorem chL_mem (z : Nat → Nat → Int) (n : Nat) (z' : Nat → Nat → Int) : ∀ k x, x ∈ chL z n z' k → ∃ i, i < k ∧ z' i 0 = x
  | 0, x, h => by simp [chL] at h
  | k + 1, x, h => by
    rw [chL_succ] at h
    split at h
    · rw [List.mem_append] at h
      rcases h with h | h
      · obtain ⟨i, hi, e⟩ := chL_mem z n z' k x h
        exact ⟨i, by omega, e⟩
      · simp at h; exact ⟨k, by omega, h.symm⟩
    · obtain ⟨i, hi, e⟩ := chL_mem z n z' k x h
      exact ⟨i, by omega, e⟩
theorem at7 {w : World} {b o : Nat} {v0 v1 v2 v3 v4 v5 v6 : Value} (h0 : w.cell? ⟨b, o, none⟩ = some v0) (h1 : w.cell? ⟨b, o + 1, none⟩ = some v1) (h2 : w.cell? ⟨b, o + 2, none⟩ = some v2) (h3 : w.cell? ⟨b, o + 3, none⟩ = some v3) (h4 : w.cell? ⟨b, o + 4, none⟩ = some v4) (h5 : w.cell? ⟨b, o + 5, none⟩ = some v5) (h6 : w.cell? ⟨b, o + 6, none⟩ = some v6) : At w b o #[v0, v1, v2, v3, v4, v5, v6] := fun i v hv => by
  rcases i with _ | _ | _ | _ | _ | _ | _ | i <;> simp at hv <;> subst hv <;> assumption
theorem okI_bd {a : Int} (h0 : -9223372036854775808 ≤ a) (h1 : a ≤ 9223372036854775807) : okI a := by
  unfold okI
  have e1 : IntKind.i64.min = -9223372036854775808 := by decide
  have e2 : IntKind.i64.max = 9223372036854775807 := by decide
  show (decide (IntKind.i64.min ≤ a) && decide (a ≤ IntKind.i64.max)) = true
  rw [e1, e2]
  simp [h0, h1]
theorem okZ0 {w : World} {A : Option Addr} {n : Nat} {z : Nat → Nat → Int} (h : RdZ w 7 A n z) : ∀ i, i < n → okI (z i 0) := fun i hi => okI_bd (rdZ_wf h hi (by omega)).1 (rdZ_wf h hi (by omega)).2
theorem own_more {w : World} {b n m : Nat} {D : MapV} (h : w.ownsMap Try.prog 3 heldR b n D) (hm : n ≤ m) : w.ownsMap Try.prog 3 heldR b m D := by
  obtain ⟨es, clock, h1, h2, h3, h4⟩ := h
  exact ⟨es, clock, h1, h2, Nat.le_trans h3 hm, h4⟩
theorem held_inj {v : Value} {d : MapV} {ps : List MemPlace} {u : Value} (h : heldR v = some (d, ps)) (e : d = .held u) : v = u := by
  unfold heldR at h
  simp only [Option.some.injEq, Prod.mk.injEq] at h
  rw [e] at h
  injection h.1
/-- the row of those that have changed -/
def ChgR (L : List Int) (w : World) (e : Ending) (w' : World) : Prop := ∃ v, e = .returned v ∧ w'.ownsRow w.heap.size 3 1 v L.length (L.map (Value.int .i64)) ∧ Below w.heap.size w w'
theorem news_one3 {w : World} {o1 o2 : Obj} {v : Value} {t : TypeId} : ∀ (j : Nat) (u : Value), [v][j]? = some u → (((w.alloc o1).alloc o2).alloc (.cells #[v] t)).cell? ((⟨w.heap.size + 1 + 1, 0, none⟩ : Addr).add j) = some u := by
  have h := one_newR (w := (w.alloc o1).alloc o2) (v := v) (t := t)
  simp only [World.size_alloc] at h
  exact h
set_option maxRecDepth 100000 in
set_option maxHeartbeats 20000000 in
theorem changed_any (A B : Option Addr) (c d n m : Nat) (z z' : Nat → Nat → Int) (w : World) (ha : RdZ w 7 A n z) (hb : RdZ w 7 B m z') (hn : n ≤ 100) (hm : m ≤ 100) :
    Calls Try.prog 15 #[.slice A n c, .slice B m d] w (ChgR (chL z n z' m) w) := by
  obtain ⟨i0, hi, hz0, hz1, hz2⟩ := info_parts mkInfo
  have HR := Lib.hid ha; have HQ := Lib.hid hb
  have HOK := Lib.hid (okZ0 ha); have HOK2 := Lib.hid (okZ0 hb)
  have hmm := @run_makeMap Try.prog
  have HFIN : Hid (∀ v W', W'.ownsRow w.heap.size 3 1 v (chL z n z' m).length ((chL z n z' m).map (Value.int .i64)) → Below w.heap.size w W' → ChgR (chL z n z' m) w (.returned v) W') := Lib.hid fun v W' h1 h2 => ⟨v, rfl, h1, h2⟩
  obtain ⟨RES, hRES⟩ : ∃ Q, ChgR (chL z n z' m) w = Q := ⟨_, rfl⟩
  rw [hRES] at HFIN ⊢
  clear ha hb hRES
  go_enter Try.func15, Try.ntmps15
  go_wp2_with fail
  have OW0 : Hid ((w.alloc (Obj.map #[] 0)).ownsMap Try.prog 3 heldR w.heap.size 0 (.map [])) := Lib.hid (World.ownsMap_made w Try.prog 3 heldR)
  have E0 := Lib.hid ((Below.refl w.heap.size w).alloc (Nat.le_refl _) (Obj.map #[] 0))
  go_loopw [16] (fun i wr => ∃ k : Nat, k ≤ n ∧ i = .int .i64 k ∧ wr.ownsMap Try.prog 3 heldR w.heap.size k (chD z k) ∧ Below w.heap.size w wr) (fun i _ => n - (intOf i).toNat)
  case atStart => exact ⟨0, by omega, rfl, OW0.out, E0.out⟩
  case round =>
    obtain ⟨k, hk, rfl, hown, hB⟩ := hrel
    have OW := Lib.hid hown; have EE := Lib.hid hB
    clear hown hB
    by_cases h : k < n
    · skip
      obtain ⟨b, o, rfl, hbl, hcell⟩ := rdZ_row HR.out (by omega) (by omega)
      have hA : At w b (o + k * 7) #[.int .i64 (z k 0), .int .i64 (z k 1), .int .i64 (z k 2), .int .i64 (z k 3), .int .i64 (z k 4), .int .i64 (z k 5), .int .i64 (z k 6)] := at7 (hcell k 0 h (by omega)) (hcell k 1 h (by omega)) (hcell k 2 h (by omega)) (hcell k 3 h (by omega)) (hcell k 4 h (by omega)) (hcell k 5 h (by omega)) (hcell k 6 h (by omega))
      have HA := Lib.hid (hA.next EE.out)
      clear hA hcell
      have o0 := HOK.out k h
      have es := chD_succ z k; unfold tripV at es
      obtain ⟨z0, hz0⟩ : ∃ q, z k 0 = q := ⟨_, rfl⟩
      obtain ⟨z1, hz1⟩ : ∃ q, z k 1 = q := ⟨_, rfl⟩
      obtain ⟨z2, hz2⟩ : ∃ q, z k 2 = q := ⟨_, rfl⟩
      obtain ⟨z3, hz3⟩ : ∃ q, z k 3 = q := ⟨_, rfl⟩
      obtain ⟨z4, hz4⟩ : ∃ q, z k 4 = q := ⟨_, rfl⟩
      obtain ⟨z5, hz5⟩ : ∃ q, z k 5 = q := ⟨_, rfl⟩
      obtain ⟨z6, hz6⟩ : ∃ q, z k 6 = q := ⟨_, rfl⟩
      rw [hz0, hz1, hz2, hz3, hz4, hz5, hz6] at HA es
      rw [hz0] at o0
      have ES := Lib.hid es
      clear es hz0 hz1 hz2 hz3 hz4 hz5 hz6
      obtain ⟨W2, hu, ho, hg⟩ := (OW.out.alloc (.cells #[.int .i64 z0, .int .i64 z1, .int .i64 z2, .int .i64 z3, .int .i64 z4, .int .i64 z5, .int .i64 z6] 34)).update idLaw Try.underlying72 (by unfold maxLen; omega) (val := .agg #[.int .i64 z0, .int .i64 z1, .int .i64 z2, .int .i64 z3, .int .i64 z4, .int .i64 z5, .int .i64 z6]) (id_key o0) (show heldR _ = some (.held _, []) from rfl)
      have OF : Hid (W2.ownsMap Try.prog 3 heldR w.heap.size (k + 1) (chD z (k + 1))) := Lib.hid (by rw [ES.out]; exact ho)
      have EF := Lib.hid ((EE.out.alloc EE.out.size (.cells #[.int .i64 z0, .int .i64 z1, .int .i64 z2, .int .i64 z3, .int .i64 z4, .int .i64 z5, .int .i64 z6] 34)).grown hg (EE.out.alloc EE.out.size (.cells #[.int .i64 z0, .int .i64 z1, .int .i64 z2, .int .i64 z3, .int .i64 z4, .int .i64 z5, .int .i64 z6] 34)).size (fun q hq => by cases hq; exact Nat.le_refl _))
      clear ho hg
      have kA0 : wr.cell? ⟨b, o + k * 7, none⟩ = some (.int .i64 z0) := HA.out 0 _ rfl
      have kA1 : wr.cell? ⟨b, o + k * 7 + 1, none⟩ = some (.int .i64 z1) := HA.out 1 _ rfl
      have kA2 : wr.cell? ⟨b, o + k * 7 + 2, none⟩ = some (.int .i64 z2) := HA.out 2 _ rfl
      have kA3 : wr.cell? ⟨b, o + k * 7 + 3, none⟩ = some (.int .i64 z3) := HA.out 3 _ rfl
      have kA4 : wr.cell? ⟨b, o + k * 7 + 4, none⟩ = some (.int .i64 z4) := HA.out 4 _ rfl
      have kA5 : wr.cell? ⟨b, o + k * 7 + 5, none⟩ = some (.int .i64 z5) := HA.out 5 _ rfl
      have kA6 : wr.cell? ⟨b, o + k * 7 + 6, none⟩ = some (.int .i64 z6) := HA.out 6 _ rfl
      go_wp2_with fail
      go_roundw
      case rel => exact ⟨k + 1, by omega, by go_num, OF.out, EF.out⟩
      case measure => simp [intOf]; omega
    · obtain rfl : n = k := by omega
      have D1 := Lib.hid (fun id => chD_at z id n)
      obtain ⟨D, hD⟩ : ∃ D, chD z n = D := ⟨_, rfl⟩
      rw [hD] at OW D1
      clear hD
      go_wp2_with fail
      go_loopw [8, 27] (fun v i wt => ∃ k : Nat, k ≤ m ∧ i = .int .i64 k ∧ wt.ownsMap Try.prog 3 heldR w.heap.size n D ∧ wt.ownsRow w.heap.size 3 1 v (chL z n z' k).length ((chL z n z' k).map (Value.int .i64)) ∧ v.ownBlock ≠ some w.heap.size ∧ Below w.heap.size w wt) (fun _ i _ => m - (intOf i).toNat)
      case atStart => exact ⟨0, by omega, rfl, OW.out, ⟨rfl, Or.inl ⟨rfl, rfl⟩⟩, by simp [Value.ownBlock], EE.out⟩
      case round =>
        obtain ⟨k, hk, rfl, hown, hrow, hsep, hB⟩ := hrel
        have OW := Lib.hid hown; have EE := Lib.hid hB; have RW := Lib.hid hrow; have SP := Lib.hid hsep
        clear hown hB hrow hsep
        by_cases h : k < m
        · skip
          obtain ⟨b, o, rfl, hbl, hcell⟩ := rdZ_row HQ.out (by omega) (by omega)
          have hA : At w b (o + k * 7) #[.int .i64 (z' k 0), .int .i64 (z' k 1), .int .i64 (z' k 2), .int .i64 (z' k 3), .int .i64 (z' k 4), .int .i64 (z' k 5), .int .i64 (z' k 6)] := at7 (hcell k 0 h (by omega)) (hcell k 1 h (by omega)) (hcell k 2 h (by omega)) (hcell k 3 h (by omega)) (hcell k 4 h (by omega)) (hcell k 5 h (by omega)) (hcell k 6 h (by omega))
          have HA := Lib.hid (hA.next EE.out)
          clear hA hcell
          have o0 := HOK2.out k h
          have es := chL_succ z n z' k; have ln := chL_len z n z' k
          obtain ⟨d1, d2⟩ := D1.out (z' k 0)
          have ll := lastT_le z (z' k 0) n
          obtain ⟨L, hL⟩ : ∃ L, chL z n z' k = L := ⟨_, rfl⟩
          rw [hL] at es ln RW
          obtain ⟨len, hlen⟩ : ∃ q, L.length = q := ⟨_, rfl⟩
          have HLEN := Lib.hid hlen
          rw [hlen] at ln RW
          obtain ⟨r, hr⟩ : ∃ r, lastT z (z' k 0) n = r := ⟨_, rfl⟩
          rw [hr] at es d1 d2 ll
          clear hr hL hlen
          have nt : neT z (r - 1) z' k ↔ ¬ (z (r - 1) 0 = z' k 0 ∧ z (r - 1) 1 = z' k 1 ∧ z (r - 1) 2 = z' k 2 ∧ z (r - 1) 3 = z' k 3 ∧ z (r - 1) 4 = z' k 4 ∧ z (r - 1) 5 = z' k 5 ∧ z (r - 1) 6 = z' k 6) := Iff.rfl
          have esY := fun q => es.trans (if_pos q); have esN := fun q => es.trans (if_neg q)
          clear es
          obtain ⟨y0, hy0⟩ : ∃ q, z' k 0 = q := ⟨_, rfl⟩
          obtain ⟨y1, hy1⟩ : ∃ q, z' k 1 = q := ⟨_, rfl⟩
          obtain ⟨y2, hy2⟩ : ∃ q, z' k 2 = q := ⟨_, rfl⟩
          obtain ⟨y3, hy3⟩ : ∃ q, z' k 3 = q := ⟨_, rfl⟩
          obtain ⟨y4, hy4⟩ : ∃ q, z' k 4 = q := ⟨_, rfl⟩
          obtain ⟨y5, hy5⟩ : ∃ q, z' k 5 = q := ⟨_, rfl⟩
          obtain ⟨y6, hy6⟩ : ∃ q, z' k 6 = q := ⟨_, rfl⟩
          rw [hy0, hy1, hy2, hy3, hy4, hy5, hy6] at HA nt
          rw [hy0] at o0 d1 d2 esY
          clear hy0 hy1 hy2 hy3 hy4 hy5 hy6
          obtain ⟨v, ps, hl, hv⟩ := (OW.out.alloc (.cells #[.int .i64 y0, .int .i64 y1, .int .i64 y2, .int .i64 y3, .int .i64 y4, .int .i64 y5, .int .i64 y6] 34)).look_ok idLaw Try.underlying72 (zeroTrip _) (show heldR zeroT = some (.held zeroT, []) from rfl) (id_key o0)
          rw [d2] at hl
          by_cases h0 : r = 0
          · have vv := held_inj hv (d1.trans (by rw [if_pos h0]))
            subst vv
            have ES := Lib.hid (esN (fun q => by have := q.1; omega))
            have e0 : decide (0 < r) = false := decide_eq_false (by omega)
            rw [e0] at hl
            unfold zeroT at hl
            clear esY esN nt d1 d2 hv e0
            have kA0 : wr.cell? ⟨b, o + k * 7, none⟩ = some (.int .i64 y0) := HA.out 0 _ rfl
            have kA1 : wr.cell? ⟨b, o + k * 7 + 1, none⟩ = some (.int .i64 y1) := HA.out 1 _ rfl
            have kA2 : wr.cell? ⟨b, o + k * 7 + 2, none⟩ = some (.int .i64 y2) := HA.out 2 _ rfl
            have kA3 : wr.cell? ⟨b, o + k * 7 + 3, none⟩ = some (.int .i64 y3) := HA.out 3 _ rfl
            have kA4 : wr.cell? ⟨b, o + k * 7 + 4, none⟩ = some (.int .i64 y4) := HA.out 4 _ rfl
            have kA5 : wr.cell? ⟨b, o + k * 7 + 5, none⟩ = some (.int .i64 y5) := HA.out 5 _ rfl
            have kA6 : wr.cell? ⟨b, o + k * 7 + 6, none⟩ = some (.int .i64 y6) := HA.out 6 _ rfl
            have GO := Lib.hid ((OW.out.alloc (.cells #[.int .i64 y0, .int .i64 y1, .int .i64 y2, .int .i64 y3, .int .i64 y4, .int .i64 y5, .int .i64 y6] 34)).alloc (.cells #[.int .i64 0, .int .i64 0, .int .i64 0, .int .i64 0, .int .i64 0, .int .i64 0, .int .i64 0] 34)); have GR := Lib.hid ((RW.out.alloc (.cells #[.int .i64 y0, .int .i64 y1, .int .i64 y2, .int .i64 y3, .int .i64 y4, .int .i64 y5, .int .i64 y6] 34)).alloc (.cells #[.int .i64 0, .int .i64 0, .int .i64 0, .int .i64 0, .int .i64 0, .int .i64 0, .int .i64 0] 34))
            have GE := Lib.hid ((EE.out.alloc EE.out.size (.cells #[.int .i64 y0, .int .i64 y1, .int .i64 y2, .int .i64 y3, .int .i64 y4, .int .i64 y5, .int .i64 y6] 34)).alloc (EE.out.alloc EE.out.size (.cells #[.int .i64 y0, .int .i64 y1, .int .i64 y2, .int .i64 y3, .int .i64 y4, .int .i64 y5, .int .i64 y6] 34)).size (.cells #[.int .i64 0, .int .i64 0, .int .i64 0, .int .i64 0, .int .i64 0, .int .i64 0, .int .i64 0] 34))
            go_wp2_with fail
            go_roundw
            case rel => exact ⟨k + 1, by omega, by go_num, GO.out, by rw [ES.out, HLEN.out]; exact GR.out, SP.out, GE.out⟩
            case measure => simp [intOf]; omega
          · have vv := held_inj hv (d1.trans (by rw [if_neg h0]))
            subst vv
            have e0 : decide (0 < r) = true := decide_eq_true (by omega)
            rw [e0] at hl
            unfold tripV at hl
            clear d1 d2 hv e0
            obtain ⟨x0, hx0⟩ : ∃ q, z (r - 1) 0 = q := ⟨_, rfl⟩
            obtain ⟨x1, hx1⟩ : ∃ q, z (r - 1) 1 = q := ⟨_, rfl⟩
            obtain ⟨x2, hx2⟩ : ∃ q, z (r - 1) 2 = q := ⟨_, rfl⟩
            obtain ⟨x3, hx3⟩ : ∃ q, z (r - 1) 3 = q := ⟨_, rfl⟩
            obtain ⟨x4, hx4⟩ : ∃ q, z (r - 1) 4 = q := ⟨_, rfl⟩
            obtain ⟨x5, hx5⟩ : ∃ q, z (r - 1) 5 = q := ⟨_, rfl⟩
            obtain ⟨x6, hx6⟩ : ∃ q, z (r - 1) 6 = q := ⟨_, rfl⟩
            rw [hx0, hx1, hx2, hx3, hx4, hx5, hx6] at hl nt
            clear hx0 hx1 hx2 hx3 hx4 hx5 hx6
            by_cases hs : x0 = y0 ∧ x1 = y1 ∧ x2 = y2 ∧ x3 = y3 ∧ x4 = y4 ∧ x5 = y5 ∧ x6 = y6
            · have ES := Lib.hid (esN (fun q => nt.1 q.2 hs))
              clear esY esN nt
              obtain ⟨rfl, rfl, rfl, rfl, rfl, rfl, rfl⟩ := hs
              have TS := trip_same x0 x1 x2 x3 x4 x5 x6
              have kA0 : wr.cell? ⟨b, o + k * 7, none⟩ = some (.int .i64 x0) := HA.out 0 _ rfl
              have kA1 : wr.cell? ⟨b, o + k * 7 + 1, none⟩ = some (.int .i64 x1) := HA.out 1 _ rfl
              have kA2 : wr.cell? ⟨b, o + k * 7 + 2, none⟩ = some (.int .i64 x2) := HA.out 2 _ rfl
              have kA3 : wr.cell? ⟨b, o + k * 7 + 3, none⟩ = some (.int .i64 x3) := HA.out 3 _ rfl
              have kA4 : wr.cell? ⟨b, o + k * 7 + 4, none⟩ = some (.int .i64 x4) := HA.out 4 _ rfl
              have kA5 : wr.cell? ⟨b, o + k * 7 + 5, none⟩ = some (.int .i64 x5) := HA.out 5 _ rfl
              have kA6 : wr.cell? ⟨b, o + k * 7 + 6, none⟩ = some (.int .i64 x6) := HA.out 6 _ rfl
              have GO := Lib.hid ((OW.out.alloc (.cells #[.int .i64 x0, .int .i64 x1, .int .i64 x2, .int .i64 x3, .int .i64 x4, .int .i64 x5, .int .i64 x6] 34)).alloc (.cells #[.int .i64 x0, .int .i64 x1, .int .i64 x2, .int .i64 x3, .int .i64 x4, .int .i64 x5, .int .i64 x6] 34)); have GR := Lib.hid ((RW.out.alloc (.cells #[.int .i64 x0, .int .i64 x1, .int .i64 x2, .int .i64 x3, .int .i64 x4, .int .i64 x5, .int .i64 x6] 34)).alloc (.cells #[.int .i64 x0, .int .i64 x1, .int .i64 x2, .int .i64 x3, .int .i64 x4, .int .i64 x5, .int .i64 x6] 34))
              have GE := Lib.hid ((EE.out.alloc EE.out.size (.cells #[.int .i64 x0, .int .i64 x1, .int .i64 x2, .int .i64 x3, .int .i64 x4, .int .i64 x5, .int .i64 x6] 34)).alloc (EE.out.alloc EE.out.size (.cells #[.int .i64 x0, .int .i64 x1, .int .i64 x2, .int .i64 x3, .int .i64 x4, .int .i64 x5, .int .i64 x6] 34)).size (.cells #[.int .i64 x0, .int .i64 x1, .int .i64 x2, .int .i64 x3, .int .i64 x4, .int .i64 x5, .int .i64 x6] 34))
              go_wp2_with fail
              go_roundw
              case rel => exact ⟨k + 1, by omega, by go_num, GO.out, by rw [ES.out, HLEN.out]; exact GR.out, SP.out, GE.out⟩
              case measure => simp [intOf]; omega
            · have ES := Lib.hid (esY ⟨by omega, nt.2 hs⟩)
              have TN := fun W => trip_ne x0 x1 x2 x3 x4 x5 x6 y0 y1 y2 y3 y4 y5 y6 W hs
              clear esY esN nt
              have HS := Lib.hid hs; clear hs
              have kA0 : wr.cell? ⟨b, o + k * 7, none⟩ = some (.int .i64 y0) := HA.out 0 _ rfl
              have kA1 : wr.cell? ⟨b, o + k * 7 + 1, none⟩ = some (.int .i64 y1) := HA.out 1 _ rfl
              have kA2 : wr.cell? ⟨b, o + k * 7 + 2, none⟩ = some (.int .i64 y2) := HA.out 2 _ rfl
              have kA3 : wr.cell? ⟨b, o + k * 7 + 3, none⟩ = some (.int .i64 y3) := HA.out 3 _ rfl
              have kA4 : wr.cell? ⟨b, o + k * 7 + 4, none⟩ = some (.int .i64 y4) := HA.out 4 _ rfl
              have kA5 : wr.cell? ⟨b, o + k * 7 + 5, none⟩ = some (.int .i64 y5) := HA.out 5 _ rfl
              have kA6 : wr.cell? ⟨b, o + k * 7 + 6, none⟩ = some (.int .i64 y6) := HA.out 6 _ rfl
              have hsz := EE.out.size
              have GO := Lib.hid ((OW.out.alloc (.cells #[.int .i64 y0, .int .i64 y1, .int .i64 y2, .int .i64 y3, .int .i64 y4, .int .i64 y5, .int .i64 y6] 34)).alloc (.cells #[.int .i64 x0, .int .i64 x1, .int .i64 x2, .int .i64 x3, .int .i64 x4, .int .i64 x5, .int .i64 x6] 34))
              have GE := Lib.hid ((EE.out.alloc EE.out.size (.cells #[.int .i64 y0, .int .i64 y1, .int .i64 y2, .int .i64 y3, .int .i64 y4, .int .i64 y5, .int .i64 y6] 34)).alloc (EE.out.alloc EE.out.size (.cells #[.int .i64 y0, .int .i64 y1, .int .i64 y2, .int .i64 y3, .int .i64 y4, .int .i64 y5, .int .i64 y6] 34)).size (.cells #[.int .i64 x0, .int .i64 x1, .int .i64 x2, .int .i64 x3, .int .i64 x4, .int .i64 x5, .int .i64 x6] 34))
              have lM := OW.out.lt
              go_wp2_with (at_builtin; refine wpList_append_own_at _ rfl _ _ 40 rfl w.heap.size 3 i0 (.int .i64 0) 1 8 Try.underlying40 hi hz0 hz1 hz2 rfl (by decide) _ _ _ rfl (((RW.out.alloc _).alloc _).alloc _) ⟨_, 0, none⟩ 1 1 [.int .i64 y0] rfl rfl (news_one3) (by intro u hu; simp at hu; subst hu; rfl) (by unfold maxLen; omega) (by omega) (by simp; omega) ?_; intro v' w4 hown' hgrow _ hat)
              have O4 : Hid (w4.ownsMap Try.prog 3 heldR w.heap.size n D) := Lib.hid ((GO.out.alloc (.cells #[.int .i64 y0] 3)).kept hgrow (fun q => SP.out q.symm))
              have E4 := Lib.hid ((GE.out.alloc GE.out.size (.cells #[.int .i64 y0] 3)).grown hgrow (GE.out.alloc GE.out.size (.cells #[.int .i64 y0] 3)).size (fun q hq => by first | exact ownR_ge RW.out hq | exact ownR_ge RW.out hq.symm))
              have S4 : Hid (v'.ownBlock ≠ some w.heap.size) := Lib.hid fun q => by
                rcases hat with e' | e'
                · rw [e'] at q; exact SP.out q
                · rw [e'] at q; simp at q; omega
              have R4 : Hid (w4.ownsRow w.heap.size 3 1 v' (chL z n z' (k + 1)).length ((chL z n z' (k + 1)).map (Value.int .i64))) := Lib.hid (by
                rw [ES.out, List.length_append, HLEN.out, List.map_append]
                exact hown')
              clear hown' hgrow hat
              go_wp2_with fail
              go_roundw
              case rel => exact ⟨k + 1, by omega, by go_num, O4.out, R4.out, S4.out, E4.out⟩
              case measure => simp [intOf]; omega
        · obtain rfl : m = k := by omega
          go_wp2_with fail
          first | exact HFIN.out _ _ RW.out EE.out | (go_ret; exact HFIN.out _ _ RW.out EE.out)
end Go.Proofs.Ytodfjghgcphhhab
