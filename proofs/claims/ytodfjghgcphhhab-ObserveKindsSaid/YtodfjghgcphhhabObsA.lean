/- Trips: how often someone got in or out of a car at a floor, as a map. -/
import Derived.Test.YtodfjghgcphhhabRows
import Derived.Test.YtodfjghgcphhhabRowKit
import Derived.Test.YtodfjghgcphhhabRowS
import Derived.Test.YtodfjghgcphhhabRowZ
import Derived.Test.YtodfjghgcphhhabSlicesEq
import Derived.Test.YtodfjghgcphhhabBlocks
import Derived.Test.YtodfjghgcphhhabAtKit
import Derived.Test.YtodfjghgcphhhabMapInc
import Derived.WalkKit
import Derived.IntWalk
import Derived.Lib.Hide
import Derived.WalkSpells
import Derived.WalkLawsBesides
import Derived.OwnWalk
import Derived.Deep.QuietTactic
import Derived.BigQuiet
import Derived.Deep.RegionHeld3
import Derived.Deep.LoopGhost
import Derived.BigRegion
import Derived.Below
import Derived.Laws.CopyOwn
namespace Go.Proofs.Ytodfjghgcphhhab
open Go.RowKit Go.Maps
set_option linter.unusedSimpArgs false
set_option linter.unusedVariables false
theorem wideStop : (match Try.prog.underlying 50 with | some (.array _ _) | some (.struct _) => true | _ => false) = true := by rw [Try.underlying50]
set_option maxRecDepth 100000 in
theorem stopKL : Go.WideMaps.KeyLaw Try.prog 50 := Go.deep_law_laid laidOut (m := 2) (by omega) (of_decide_eq_true (by kernel_rfl)) (by kernel_rfl) wideStop
theorem stopLaw : Keyed Try.prog 50 := Keyed.of_law stopKL
theorem zeroInt (w : World) : (zeroValue 3).run Try.prog w = .ok (.int .i64 0) w := by kernel_rfl
/-- a stop's key -/
def stV (a b : Int) : Value := .agg #[.int .i64 a, .int .i64 b]
def okI (a : Int) : Prop := (Lit.int .i64 a).wf = true
def kS (a b : Int) : Lit := .string (keyBytes [.int .i64 a, .int .i64 b])
set_option maxRecDepth 100000 in
theorem key_of {a b : Int} (ha : okI a) (hb : okI b) : keyOf Try.prog 50 (stV a b) = some (kS a b) := by
  have h1 : ∀ d x, okI x → Try.prog.keyLits (d + 1) 3 [.int .i64 x] = some [.int .i64 x] := fun d x hx => by
    unfold okI at hx
    simp [Program.keyLits, Try.underlying3, hx]
  have c1 : Try.prog.cellsOf 3 = 1 := by kernel_rfl
  have c2 : Try.prog.cellsOf 50 = 2 := by kernel_rfl
  have hk : Try.prog.keyType 50 = true := by kernel_rfl
  have hf : (stV a b).formed Try.prog 50 = true := by simp [Value.formed, stV, Try.underlying50, c2]
  obtain ⟨d, hd⟩ : ∃ d, Try.prog.types.size = d + 1 := ⟨Try.prog.types.size - 1, by kernel_rfl⟩
  have h2 : Try.prog.keyLits (Try.prog.types.size + 1) 50 [.int .i64 a, .int .i64 b] = some [.int .i64 a, .int .i64 b] := by
    rw [hd]
    have e1 := h1 d a ha
    have e2 := h1 d b hb
    unfold Program.keyLits
    rw [Try.underlying50]
    simp [c1, c2, e1, e2]
  unfold keyOf
  rw [Try.underlying50]
  show (if (Try.prog.keyType 50 && (stV a b).formed Try.prog 50) = true then (Try.prog.keyLits (Try.prog.types.size + 1) 50 (stV a b).cells.toList).map (fun ls => Lit.string (keyBytes ls)) else none) = _
  rw [hk, hf]
  show (Try.prog.keyLits (Try.prog.types.size + 1) 50 [.int .i64 a, .int .i64 b]).map (fun ls => Lit.string (keyBytes ls)) = _
  rw [h2]; rfl
theorem kS_inj {a b c d : Int} (ha : okI a) (hb : okI b) (hc : okI c) (hd : okI d) (h : kS a b = kS c d) : a = c ∧ b = d := by
  have h1 := key_of ha hb
  have h2 := key_of hc hd
  rw [h] at h1
  have h3 := stopLaw.inj h1 h2
  unfold stV at h3
  simp at h3
  exact h3
abbrev MapD := DataW Unit
def litI (c : Int) : MapD := .lit (.int .i64 c)
def atD (D : MapD) (a b : Int) : Int := match D.atKey (kS a b) (litI 0) with | .lit (.int _ c) => c | _ => 0
def incD (D : MapD) (a b : Int) : MapD := D.put (kS a b) (litI (atD D a b + 1))
/-- a map's numbers, by its keys -/
def MapIs (D : MapD) (f : Int → Int → Int) : Prop := IsMap D ∧ ∀ a b, okI a → okI b → D.atKey (kS a b) (litI 0) = litI (f a b)
theorem atD_is {D : MapD} {f : Int → Int → Int} (h : MapIs D f) {a b : Int} (ha : okI a) (hb : okI b) : atD D a b = f a b := by
  unfold atD; rw [h.2 a b ha hb]; rfl
theorem isMap_put {D : MapD} (h : IsMap D) (k : Lit) (d : MapD) : IsMap (D.put k d) := by
  obtain ⟨es, rfl⟩ := h
  exact ⟨_, rfl⟩
theorem mapIs_inc {D : MapD} {f : Int → Int → Int} (h : MapIs D f) {a b : Int} (ha : okI a) (hb : okI b) : MapIs (incD D a b) (fun x y => f x y + if a = x ∧ b = y then 1 else 0) := by
  refine ⟨isMap_put h.1 _ _, fun x y hx hy => ?_⟩
  unfold incD
  by_cases e : a = x ∧ b = y
  · obtain ⟨rfl, rfl⟩ := e
    rw [atKey_put_same h.1 (stopLaw.key (key_of ha hb)), atD_is h ha hb]
    dsimp only
    rw [if_pos ⟨rfl, rfl⟩]
  · rw [atKey_put_other (fun e' => e (by have := kS_inj hx hy ha hb e'; exact ⟨this.1.symm, this.2.symm⟩)), h.2 x y hx hy]
    dsimp only
    rw [if_neg e, Int.add_zero]
/-- how often a car was stopped at a floor, of so many trips -/
def cntS (z : Nat → Nat → Int) (a b : Int) : Nat → Int
  | 0 => 0
  | n + 1 => (cntS z a b n + if 0 ≤ z n 5 ∧ z n 4 = a ∧ z n 2 = b then 1 else 0) + if 0 ≤ z n 6 ∧ z n 4 = a ∧ z n 3 = b then 1 else 0
theorem cntS_bd (z : Nat → Nat → Int) (a b : Int) : ∀ n, 0 ≤ cntS z a b n ∧ cntS z a b n ≤ 2 * n
  | 0 => by simp [cntS]
  | n + 1 => by
    have := cntS_bd z a b n
    unfold cntS
    split <;> split <;> omega
/-- the map behind those who got in, of one trip more; behind those who got out, too -/
def inD (D : MapD) (z : Nat → Nat → Int) (n : Nat) : MapD := if 0 ≤ z n 5 then incD D (z n 4) (z n 2) else D
def outD (D : MapD) (z : Nat → Nat → Int) (n : Nat) : MapD := if 0 ≤ z n 6 then incD D (z n 4) (z n 3) else D
def stD (z : Nat → Nat → Int) : Nat → MapD
  | 0 => .map []
  | n + 1 => outD (inD (stD z n) z n) z n
theorem stD_succ (z : Nat → Nat → Int) (n : Nat) : stD z (n + 1) = outD (inD (stD z n) z n) z n := rfl
def okZ (z : Nat → Nat → Int) (n : Nat) : Prop := ∀ i, i < n → okI (z i 4) ∧ okI (z i 2) ∧ okI (z i 3)
def inF (z : Nat → Nat → Int) (n : Nat) (f : Int → Int → Int) (a b : Int) : Int := f a b + if 0 ≤ z n 5 ∧ z n 4 = a ∧ z n 2 = b then 1 else 0
theorem mapIs_in {D : MapD} {f : Int → Int → Int} {z : Nat → Nat → Int} {n : Nat} (h : MapIs D f) (h4 : okI (z n 4)) (h2 : okI (z n 2)) : MapIs (inD D z n) (inF z n f) := by
  unfold inD inF
  by_cases c : 0 ≤ z n 5
  · rw [if_pos c]
    have := mapIs_inc h h4 h2
    refine ⟨this.1, fun a b ha hb => ?_⟩
    rw [this.2 a b ha hb]
    dsimp only
    congr 2
    by_cases e : z n 4 = a ∧ z n 2 = b
    · rw [if_pos e, if_pos ⟨c, e⟩]
    · rw [if_neg e, if_neg (fun q => e q.2)]
  · rw [if_neg c]
    refine ⟨h.1, fun a b ha hb => ?_⟩
    rw [h.2 a b ha hb]
    dsimp only
    rw [if_neg (fun q => c q.1), Int.add_zero]
theorem mapIs_out {D : MapD} {f : Int → Int → Int} {z : Nat → Nat → Int} {n : Nat} (h : MapIs D f) (h4 : okI (z n 4)) (h3 : okI (z n 3)) : MapIs (outD D z n) (fun a b => f a b + if 0 ≤ z n 6 ∧ z n 4 = a ∧ z n 3 = b then 1 else 0) := by
  unfold outD
  by_cases c : 0 ≤ z n 6
  · rw [if_pos c]
    have := mapIs_inc h h4 h3
    refine ⟨this.1, fun a b ha hb => ?_⟩
    rw [this.2 a b ha hb]
    dsimp only
    congr 2
    by_cases e : z n 4 = a ∧ z n 3 = b
    · rw [if_pos e, if_pos ⟨c, e⟩]
    · rw [if_neg e, if_neg (fun q => e q.2)]
  · rw [if_neg c]
    refine ⟨h.1, fun a b ha hb => ?_⟩
    rw [h.2 a b ha hb]
    dsimp only
    rw [if_neg (fun q => c q.1), Int.add_zero]
theorem mapIs_st {z : Nat → Nat → Int} : ∀ n, okZ z n → MapIs (stD z n) (fun a b => cntS z a b n)
  | 0, _ => ⟨⟨_, rfl⟩, fun a b _ _ => rfl⟩
  | n + 1, h => by
    have h1 := mapIs_st n fun i hi => h i (by omega)
    obtain ⟨h4, h2, h3⟩ := h n (by omega)
    exact mapIs_out (mapIs_in h1 h4 h2) h4 h3
theorem blk_grownM {w w' : World} {g r : Nat} {t : TypeId} {cs : Array Value} (h : Blk w g t cs) (hg : w.grownBy w' (some r)) (hne : g ≠ r) : Blk w' g t cs := (hg.block g h.lt (fun e => hne (by simpa using e))).trans h
theorem okI_bd {a : Int} (h0 : -9223372036854775808 ≤ a) (h1 : a ≤ 9223372036854775807) : okI a := by
  unfold okI
  have e1 : IntKind.i64.min = -9223372036854775808 := by decide
  have e2 : IntKind.i64.max = 9223372036854775807 := by decide
  show (decide (IntKind.i64.min ≤ a) && decide (a ≤ IntKind.i64.max)) = true
  rw [e1, e2]
  simp [h0, h1]
theorem okZ_rd {w : World} {A : Option Addr} {n : Nat} {z : Nat → Nat → Int} (h : RdZ w 7 A n z) : okZ z n := fun i hi =>
  ⟨okI_bd (rdZ_wf h hi (by omega)).1 (rdZ_wf h hi (by omega)).2, okI_bd (rdZ_wf h hi (by omega)).1 (rdZ_wf h hi (by omega)).2, okI_bd (rdZ_wf h hi (by omega)).1 (rdZ_wf h hi (by omega)).2⟩
theorem at7 {w : World} {b o : Nat} {v0 v1 v2 v3 v4 v5 v6 : Value} (h0 : w.cell? ⟨b, o, none⟩ = some v0) (h1 : w.cell? ⟨b, o + 1, none⟩ = some v1) (h2 : w.cell? ⟨b, o + 2, none⟩ = some v2) (h3 : w.cell? ⟨b, o + 3, none⟩ = some v3) (h4 : w.cell? ⟨b, o + 4, none⟩ = some v4) (h5 : w.cell? ⟨b, o + 5, none⟩ = some v5) (h6 : w.cell? ⟨b, o + 6, none⟩ = some v6) : At w b o #[v0, v1, v2, v3, v4, v5, v6] := fun i v hv => by
  rcases i with _ | _ | _ | _ | _ | _ | _ | i <;> simp at hv <;> subst hv <;> assumption
/-- the map of all stops of a row of trips -/
def StopsR (z : Nat → Nat → Int) (n : Nat) (w : World) (e : Ending) (w' : World) : Prop := e = .returned (.map (some w.heap.size)) ∧ w'.ownsMap Try.prog 50 (plainElem (H := Unit) Try.prog 3) w.heap.size (2 * n) (stD z n) ∧ Below w.heap.size w w'
theorem own_le {w : World} {b n m : Nat} {D : MapD} (h : w.ownsMap Try.prog 50 (plainElem (H := Unit) Try.prog 3) b n D) (hm : n ≤ m) : w.ownsMap Try.prog 50 (plainElem (H := Unit) Try.prog 3) b m D := by
  obtain ⟨es, clock, h1, h2, h3, h4⟩ := h
  exact ⟨es, clock, h1, h2, Nat.le_trans h3 hm, h4⟩
set_option maxRecDepth 100000 in
set_option maxHeartbeats 20000000 in
theorem stops_any (A : Option Addr) (c n : Nat) (z : Nat → Nat → Int) (w : World) (hr : RdZ w 7 A n z) (hn : n ≤ 100) :
    Calls Try.prog 20 #[.slice A n c] w (StopsR z n w) := by
  have HR := Lib.hid hr
  have HOK := Lib.hid (okZ_rd hr)
  have HMI : Hid (∀ k, k ≤ n → MapIs (stD z k) (fun a b => cntS z a b k)) := Lib.hid fun k hk => mapIs_st k fun i hi => HOK.out i (by omega)
  have hmm := @run_makeMap Try.prog
  clear hr
  go_enter Try.func20, Try.ntmps20
  go_wp2_with fail
  have OW0 : Hid ((w.alloc (Obj.map #[] 0)).ownsMap Try.prog 50 (plainElem (H := Unit) Try.prog 3) w.heap.size 0 (.map [])) := Lib.hid (World.ownsMap_made w Try.prog 50 (plainElem (H := Unit) Try.prog 3))
  have E0 := Lib.hid ((Below.refl w.heap.size w).alloc (Nat.le_refl _) (Obj.map #[] 0))
  go_loopw [9] (fun i wr => ∃ k : Nat, k ≤ n ∧ i = .int .i64 k ∧ wr.ownsMap Try.prog 50 (plainElem (H := Unit) Try.prog 3) w.heap.size (2 * k) (stD z k) ∧ Below w.heap.size w wr) (fun i _ => n - (intOf i).toNat)
  case atStart => exact ⟨0, by omega, rfl, OW0.out, E0.out⟩
  case round =>
    obtain ⟨k, hk, rfl, hown, hB⟩ := hrel
    have OW := Lib.hid hown; have EE := Lib.hid hB
    clear hown hB
    by_cases h : k < n
    · skip
      obtain ⟨b, o, rfl, hbl, hcell⟩ := rdZ_row HR.out (by omega) (by omega)
      obtain ⟨o4, o2, o3⟩ := HOK.out k h
      have MI0 := HMI.out k hk
      have MI1 := mapIs_in MI0 o4 o2
      have bd0 := cntS_bd z (z k 4) (z k 2) k; have bd1 := cntS_bd z (z k 4) (z k 3) k
      have es := stD_succ z k
      have hA : At w b (o + k * 7) #[.int .i64 (z k 0), .int .i64 (z k 1), .int .i64 (z k 2), .int .i64 (z k 3), .int .i64 (z k 4), .int .i64 (z k 5), .int .i64 (z k 6)] := at7 (hcell k 0 h (by omega)) (hcell k 1 h (by omega)) (hcell k 2 h (by omega)) (hcell k 3 h (by omega)) (hcell k 4 h (by omega)) (hcell k 5 h (by omega)) (hcell k 6 h (by omega))
      have HA := Lib.hid (hA.next EE.out)
      clear hA hcell
      have hi0 : inD (stD z k) z k = if 0 ≤ z k 5 then incD (stD z k) (z k 4) (z k 2) else stD z k := rfl
      have ho0 : outD (inD (stD z k) z k) z k = if 0 ≤ z k 6 then incD (inD (stD z k) z k) (z k 4) (z k 3) else inD (stD z k) z k := rfl
      have hf1 : 0 ≤ inF z k (fun a b => cntS z a b k) (z k 4) (z k 3) ∧ inF z k (fun a b => cntS z a b k) (z k 4) (z k 3) ≤ 1000 := by unfold inF; dsimp only; split <;> omega
      have hf0 : 0 ≤ cntS z (z k 4) (z k 2) k ∧ cntS z (z k 4) (z k 2) k ≤ 1000 := by omega
      have AT0 := atD_is MI0 o4 o2; have AT1 := atD_is MI1 o4 o3
      obtain ⟨z0, hz0⟩ : ∃ q, z k 0 = q := ⟨_, rfl⟩
      obtain ⟨z1, hz1⟩ : ∃ q, z k 1 = q := ⟨_, rfl⟩
      obtain ⟨z2, hz2⟩ : ∃ q, z k 2 = q := ⟨_, rfl⟩
      obtain ⟨z3, hz3⟩ : ∃ q, z k 3 = q := ⟨_, rfl⟩
      obtain ⟨z4, hz4⟩ : ∃ q, z k 4 = q := ⟨_, rfl⟩
      obtain ⟨z5, hz5⟩ : ∃ q, z k 5 = q := ⟨_, rfl⟩
      obtain ⟨z6, hz6⟩ : ∃ q, z k 6 = q := ⟨_, rfl⟩
      rw [hz0, hz1, hz2, hz3, hz4, hz5, hz6] at HA
      rw [hz5, hz4, hz2] at hi0; rw [hz6, hz4, hz3] at ho0; rw [hz4, hz2] at hf0 AT0; rw [hz4, hz3] at hf1 AT1; rw [hz4] at o4; rw [hz2] at o2; rw [hz3] at o3
      obtain ⟨D0, hD0⟩ : ∃ D, stD z k = D := ⟨_, rfl⟩
      obtain ⟨D1, hD1⟩ : ∃ D, inD (stD z k) z k = D := ⟨_, rfl⟩
      rw [hD1] at hi0 ho0 AT1 es; rw [hD0] at hi0 AT0; rw [hD0] at OW
      obtain ⟨D2, hD2⟩ : ∃ D, outD D1 z k = D := ⟨_, rfl⟩
      rw [hD2] at ho0 es
      rw [← AT0] at hf0; rw [← AT1] at hf1
      have ES := Lib.hid es; have I0 := Lib.hid hi0; have O0 := Lib.hid ho0
      clear es hi0 ho0 MI0 MI1 bd0 bd1 AT0 AT1 hD0 hD1 hD2 hz0 hz1 hz2 hz3 hz4 hz5 hz6
      by_cases c5 : 0 ≤ z5
      · have e5 : D1 = incD D0 z4 z2 := by rw [I0.out, if_pos c5]
        have kA0 : wr.cell? ⟨b, o + k * 7, none⟩ = some (.int .i64 z0) := HA.out 0 _ rfl
        have kA1 : wr.cell? ⟨b, o + k * 7 + 1, none⟩ = some (.int .i64 z1) := HA.out 1 _ rfl
        have kA2 : wr.cell? ⟨b, o + k * 7 + 2, none⟩ = some (.int .i64 z2) := HA.out 2 _ rfl
        have kA3 : wr.cell? ⟨b, o + k * 7 + 3, none⟩ = some (.int .i64 z3) := HA.out 3 _ rfl
        have kA4 : wr.cell? ⟨b, o + k * 7 + 4, none⟩ = some (.int .i64 z4) := HA.out 4 _ rfl
        have kA5 : wr.cell? ⟨b, o + k * 7 + 5, none⟩ = some (.int .i64 z5) := HA.out 5 _ rfl
        have kA6 : wr.cell? ⟨b, o + k * 7 + 6, none⟩ = some (.int .i64 z6) := HA.out 6 _ rfl
        go_wp2_with fail
        clear kA0 kA1 kA2 kA3 kA4 kA5 kA6
        have GA : At (wr.alloc (.cells #[.int .i64 z0, .int .i64 z1, .int .i64 z2, .int .i64 z3, .int .i64 z4, .int .i64 z5, .int .i64 z6] 34)) b (o + k * 7) #[.int .i64 z0, .int .i64 z1, .int .i64 z2, .int .i64 z3, .int .i64 z4, .int .i64 z5, .int .i64 z6] := HA.out.alloc (.cells #[.int .i64 z0, .int .i64 z1, .int .i64 z2, .int .i64 z3, .int .i64 z4, .int .i64 z5, .int .i64 z6] 34)
        have GG : Blk (wr.alloc (.cells #[.int .i64 z0, .int .i64 z1, .int .i64 z2, .int .i64 z3, .int .i64 z4, .int .i64 z5, .int .i64 z6] 34)) (wr.heap.size) 34 #[.int .i64 z0, .int .i64 z1, .int .i64 z2, .int .i64 z3, .int .i64 z4, .int .i64 z5, .int .i64 z6] := Blk.new wr _ _
        have GE : Below w.heap.size w (wr.alloc (.cells #[.int .i64 z0, .int .i64 z1, .int .i64 z2, .int .i64 z3, .int .i64 z4, .int .i64 z5, .int .i64 z6] 34)) := EE.out.alloc EE.out.size (.cells #[.int .i64 z0, .int .i64 z1, .int .i64 z2, .int .i64 z3, .int .i64 z4, .int .i64 z5, .int .i64 z6] 34)
        obtain ⟨g, hg⟩ : ∃ g, wr.heap.size = g := ⟨_, rfl⟩
        have geg : w.heap.size ≤ g := by have := EE.out.size; omega
        have geM : w.heap.size < g := by have := OW.out.lt; omega
        rw [hg] at GG ⊢
        clear hg
        obtain ⟨v21, hv21⟩ : ∃ V, (wr.alloc (.cells #[.int .i64 z0, .int .i64 z1, .int .i64 z2, .int .i64 z3, .int .i64 z4, .int .i64 z5, .int .i64 z6] 34)) = V := ⟨_, rfl⟩
        have GOW := OW.out.alloc (.cells #[.int .i64 z0, .int .i64 z1, .int .i64 z2, .int .i64 z3, .int .i64 z4, .int .i64 z5, .int .i64 z6] 34)
        rw [hv21] at GA GG GE GOW ⊢
        have OW := Lib.hid GOW
        have HA := Lib.hid GA
        have HG := Lib.hid GG
        have EE := Lib.hid GE
        clear hv21 GA GG GE GOW
        have kA0 : v21.cell? ⟨b, o + k * 7, none⟩ = some (.int .i64 z0) := HA.out 0 _ rfl
        have kA1 : v21.cell? ⟨b, o + k * 7 + 1, none⟩ = some (.int .i64 z1) := HA.out 1 _ rfl
        have kA2 : v21.cell? ⟨b, o + k * 7 + 2, none⟩ = some (.int .i64 z2) := HA.out 2 _ rfl
        have kA3 : v21.cell? ⟨b, o + k * 7 + 3, none⟩ = some (.int .i64 z3) := HA.out 3 _ rfl
        have kA4 : v21.cell? ⟨b, o + k * 7 + 4, none⟩ = some (.int .i64 z4) := HA.out 4 _ rfl
        have kA5 : v21.cell? ⟨b, o + k * 7 + 5, none⟩ = some (.int .i64 z5) := HA.out 5 _ rfl
        have kA6 : v21.cell? ⟨b, o + k * 7 + 6, none⟩ = some (.int .i64 z6) := HA.out 6 _ rfl
        have kG0 : v21.cell? ⟨g, 0, none⟩ = some (.int .i64 z0) := HG.out.cell 0
        have kG1 : v21.cell? ⟨g, 1, none⟩ = some (.int .i64 z1) := HG.out.cell 1
        have kG2 : v21.cell? ⟨g, 2, none⟩ = some (.int .i64 z2) := HG.out.cell 2
        have kG3 : v21.cell? ⟨g, 3, none⟩ = some (.int .i64 z3) := HG.out.cell 3
        have kG4 : v21.cell? ⟨g, 4, none⟩ = some (.int .i64 z4) := HG.out.cell 4
        have kG5 : v21.cell? ⟨g, 5, none⟩ = some (.int .i64 z5) := HG.out.cell 5
        have kG6 : v21.cell? ⟨g, 6, none⟩ = some (.int .i64 z6) := HG.out.cell 6
        obtain ⟨c, v0, st, W1, ga, gw, gl, ge, gl1, gg1, gs⟩ := inc_own (w := v21.drew) stopKL Try.underlying51 Try.underlying3 zeroInt (OW.out.drew) (by unfold maxLen; omega) (key_of o4 o2)
        have hc : atD D0 z4 z2 = c := by unfold atD litI; rw [ga]
        have hc1 : okI (c + 1) := okI_bd (by omega) (by omega)
        have w1 : IntKind.i64.wrap (c + 1) = c + 1 := IntWalk.i64_in _ (by omega)
        obtain ⟨W2, gs2, go2, gg2⟩ := gs (c + 1) hc1
        have hinc : D0.put (kS z4 z2) (.lit (.int .i64 (c + 1))) = incD D0 z4 z2 := by unfold incD litI; rw [hc]
        rw [hinc] at go2
        have OW2 := Lib.hid go2
        obtain ⟨stv, hstv⟩ : ∃ q, goInt (st : Int) = q := ⟨_, rfl⟩
        rw [hstv] at ge gs2
        have EB := Lib.hid ((EE.out.drew).grown gg2 EE.out.drew.size (fun q hq => by cases hq; exact Nat.le_refl _))
        have GB := Lib.hid (blk_grownM (w := v21.drew) HG.out gg2 (by omega))
        have G1 := Lib.hid (blk_grownM (w := v21.drew) HG.out gg1 (by omega))
        unfold stV at gl ge gl1
        clear ga gw gs gg1 gg2 go2 hstv hinc hc hc1
        have sK : ∀ X, Blk X (g) 34 #[.int .i64 z0, .int .i64 z1, .int .i64 z2, .int .i64 z3, .int .i64 z4, .int .i64 z5, .int .i64 z6] → (fun X => X.cell? ⟨g, 0, none⟩ = some (.int .i64 z0) ∧ X.cell? ⟨g, 1, none⟩ = some (.int .i64 z1) ∧ X.cell? ⟨g, 2, none⟩ = some (.int .i64 z2) ∧ X.cell? ⟨g, 3, none⟩ = some (.int .i64 z3) ∧ X.cell? ⟨g, 4, none⟩ = some (.int .i64 z4) ∧ X.cell? ⟨g, 5, none⟩ = some (.int .i64 z5) ∧ X.cell? ⟨g, 6, none⟩ = some (.int .i64 z6)) X := fun X hG => ⟨hG.cell 0, hG.cell 1, hG.cell 2, hG.cell 3, hG.cell 4, hG.cell 5, hG.cell 6⟩
        have LG0 := Lib.hid (HG.out.drew)
        have E0 := Lib.hid (EE.out.drew)
        clear kA0 kA1 kA2 kA3 kA4 kA5 kA6 kG0 kG1 kG2 kG3 kG4 kG5 kG6
        refine wp_region_held_drew (S := (fun X => X.cell? ⟨g, 0, none⟩ = some (.int .i64 z0) ∧ X.cell? ⟨g, 1, none⟩ = some (.int .i64 z1) ∧ X.cell? ⟨g, 2, none⟩ = some (.int .i64 z2) ∧ X.cell? ⟨g, 3, none⟩ = some (.int .i64 z3) ∧ X.cell? ⟨g, 4, none⟩ = some (.int .i64 z4) ∧ X.cell? ⟨g, 5, none⟩ = some (.int .i64 z5) ∧ X.cell? ⟨g, 6, none⟩ = some (.int .i64 z6))) (by kernel_rfl) (sK _ LG0.out) (fun hHeld => ?_)
        clear hHeld
        refine wpAnyH_take (i := 0) (v := ?_) rfl (by kernel_rfl) (by kernel_rfl) (by kernel_rfl) (fun _ _ _ h => h) (Or.inl ⟨by rfl, ?_⟩) (sK _ LG0.out) ?_
        rotate_left
        · (intro wS hSw; (try dsimp only at hSw); go_simp; try with_reducible rfl)
        simp only [Act.put, List.getElem_toArray, List.getElem_cons_zero, List.getElem_cons_succ, List.setIfInBounds_toArray, List.set_cons_zero, List.set_cons_succ]
        refine wpAnyH_take (i := 1) (v := ?_) rfl (by kernel_rfl) (by kernel_rfl) (by kernel_rfl) (fun _ _ _ h => h) (Or.inl ⟨by rfl, ?_⟩) (sK _ LG0.out) ?_
        rotate_left
        · (intro wS hSw; (try dsimp only at hSw); go_simp; try with_reducible rfl)
        simp only [Act.put, List.getElem_toArray, List.getElem_cons_zero, List.getElem_cons_succ, List.setIfInBounds_toArray, List.set_cons_zero, List.set_cons_succ]
        refine wpAnyH_take (i := 2) (v := ?_) rfl (by kernel_rfl) (by kernel_rfl) (by kernel_rfl) (fun _ _ _ h => h) (Or.inl ⟨by rfl, ?_⟩) (sK _ LG0.out) ?_
        rotate_left
        · (intro wS hSw; (try dsimp only at hSw); go_simp; try with_reducible rfl)
        simp only [Act.put, List.getElem_toArray, List.getElem_cons_zero, List.getElem_cons_succ, List.setIfInBounds_toArray, List.set_cons_zero, List.set_cons_succ]
        refine wpAnyH_take (i := 3) (v := ?_) rfl (by kernel_rfl) (by kernel_rfl) (by kernel_rfl) (fun _ _ _ h => h) (Or.inl ⟨by rfl, ?_⟩) (sK _ LG0.out) ?_
        rotate_left
        · (intro wS hSw; (try dsimp only at hSw); go_simp; try with_reducible rfl)
        simp only [Act.put, List.getElem_toArray, List.getElem_cons_zero, List.getElem_cons_succ, List.setIfInBounds_toArray, List.set_cons_zero, List.set_cons_succ]
        refine wpAnyH_take (i := 4) (v := ?_) rfl (by kernel_rfl) (by kernel_rfl) (by kernel_rfl) (fun _ _ _ h => h) (Or.inl ⟨by rfl, ?_⟩) (sK _ LG0.out) ?_
        rotate_left
        · (intro wS hSw; (try dsimp only at hSw); go_simp; try with_reducible rfl)
        simp only [Act.put, List.getElem_toArray, List.getElem_cons_zero, List.getElem_cons_succ, List.setIfInBounds_toArray, List.set_cons_zero, List.set_cons_succ]
        refine wpAnyH_take (i := 5) (v := ?_) rfl (by kernel_rfl) (by kernel_rfl) (by kernel_rfl) (fun _ _ _ h => h) (Or.inl ⟨by rfl, ?_⟩) (sK _ LG0.out) ?_
        rotate_left
        · (intro wS hSw; (try dsimp only at hSw); go_simp; try with_reducible rfl)
        simp only [Act.put, List.getElem_toArray, List.getElem_cons_zero, List.getElem_cons_succ, List.setIfInBounds_toArray, List.set_cons_zero, List.set_cons_succ]
        refine wpAnyH_ready (rs := [6, 8]) (by kernel_rfl) (by simp) ?_
        refine AllReadyH.cons rfl (fun K hK => ?_) (AllReadyH.cons rfl (fun K hK => ?_) AllReadyH.nil)
        skip
        · go_simp
          refine hK.out _ _ (sK _ LG0.out) (fun hHeld => ?_)
          clear hK K hHeld
          try simp only [Act.put, List.getElem_toArray, List.getElem_cons_zero, List.getElem_cons_succ, List.setIfInBounds_toArray, List.set_cons_zero, List.set_cons_succ]
          refine wpAnyH_take (i := 7) (v := ?_) rfl (by kernel_rfl) (by kernel_rfl) (by kernel_rfl) (fun _ _ _ h => h) (Or.inl ⟨by rfl, ?_⟩) (sK _ LG0.out) ?_
          rotate_left
          · (intro wS hSw; (try dsimp only at hSw); go_simp; try with_reducible rfl)
          simp only [Act.put, List.getElem_toArray, List.getElem_cons_zero, List.getElem_cons_succ, List.setIfInBounds_toArray, List.set_cons_zero, List.set_cons_succ]
          refine wpAnyH_ready (rs := [8]) (by kernel_rfl) (by simp) ?_
          refine AllReadyH.cons rfl (fun K hK => ?_) AllReadyH.nil
          go_simp
          refine hK.out _ _ (sK _ G1.out) (fun hHeld => ?_)
          clear hK K hHeld
          try simp only [Act.put, List.getElem_toArray, List.getElem_cons_zero, List.getElem_cons_succ, List.setIfInBounds_toArray, List.set_cons_zero, List.set_cons_succ]
          refine wpAnyH_take (i := 9) (v := ?_) rfl (by kernel_rfl) (by kernel_rfl) (by kernel_rfl) (fun _ _ _ h => h) (Or.inl ⟨by rfl, ?_⟩) (sK _ G1.out) ?_
          rotate_left
          · (intro wS hSw; (try dsimp only at hSw); go_simp; try with_reducible rfl)
          simp only [Act.put, List.getElem_toArray, List.getElem_cons_zero, List.getElem_cons_succ, List.setIfInBounds_toArray, List.set_cons_zero, List.set_cons_succ]
          refine wpAnyH_ready (rs := [10]) (by kernel_rfl) (by simp) ?_
          refine AllReadyH.cons rfl (fun K hK => ?_) AllReadyH.nil
          go_simp
          refine hK.out _ _ (sK _ GB.out) (fun hHeld => ?_)
          clear hK K hHeld
          try simp only [Act.put, List.getElem_toArray, List.getElem_cons_zero, List.getElem_cons_succ, List.setIfInBounds_toArray, List.set_cons_zero, List.set_cons_succ]
          refine wpAnyH_done (by kernel_rfl) ?_ _
          have OW : Hid (W2.ownsMap Try.prog 50 (plainElem (H := Unit) Try.prog 3) w.heap.size (2 * k + 1) D1) := Lib.hid (by rw [e5]; exact OW2.out)
          have EE := EB
          have HG := GB
          clear gl ge gl1 gs2 OW2 EB GB G1
          clear sK LG0 E0
          skip
          by_cases c6 : 0 ≤ z6
          · have e6 : D2 = incD D1 z4 z3 := by rw [O0.out, if_pos c6]
            have kG0 : W2.cell? ⟨g, 0, none⟩ = some (.int .i64 z0) := HG.out.cell 0
            have kG1 : W2.cell? ⟨g, 1, none⟩ = some (.int .i64 z1) := HG.out.cell 1
            have kG2 : W2.cell? ⟨g, 2, none⟩ = some (.int .i64 z2) := HG.out.cell 2
            have kG3 : W2.cell? ⟨g, 3, none⟩ = some (.int .i64 z3) := HG.out.cell 3
            have kG4 : W2.cell? ⟨g, 4, none⟩ = some (.int .i64 z4) := HG.out.cell 4
            have kG5 : W2.cell? ⟨g, 5, none⟩ = some (.int .i64 z5) := HG.out.cell 5
            have kG6 : W2.cell? ⟨g, 6, none⟩ = some (.int .i64 z6) := HG.out.cell 6
            go_wp2_with fail
            obtain ⟨c, v0, st, W3, ga, gw, gl, ge, gl1, gg1, gs⟩ := inc_own (w := W2.drew) stopKL Try.underlying51 Try.underlying3 zeroInt (OW.out.drew) (by unfold maxLen; omega) (key_of o4 o3)
            have hc : atD D1 z4 z3 = c := by unfold atD litI; rw [ga]
            have hc1 : okI (c + 1) := okI_bd (by omega) (by omega)
            have w1 : IntKind.i64.wrap (c + 1) = c + 1 := IntWalk.i64_in _ (by omega)
            obtain ⟨W4, gs2, go2, gg2⟩ := gs (c + 1) hc1
            have hinc : D1.put (kS z4 z3) (.lit (.int .i64 (c + 1))) = incD D1 z4 z3 := by unfold incD litI; rw [hc]
            rw [hinc] at go2
            have OW2 := Lib.hid go2
            obtain ⟨stv, hstv⟩ : ∃ q, goInt (st : Int) = q := ⟨_, rfl⟩
            rw [hstv] at ge gs2
            have EB := Lib.hid ((EE.out.drew).grown gg2 EE.out.drew.size (fun q hq => by cases hq; exact Nat.le_refl _))
            have GB := Lib.hid (blk_grownM (w := W2.drew) HG.out gg2 (by omega))
            have G1 := Lib.hid (blk_grownM (w := W2.drew) HG.out gg1 (by omega))
            unfold stV at gl ge gl1
            clear ga gw gs gg1 gg2 go2 hstv hinc hc hc1
            have sK : ∀ X, Blk X (g) 34 #[.int .i64 z0, .int .i64 z1, .int .i64 z2, .int .i64 z3, .int .i64 z4, .int .i64 z5, .int .i64 z6] → (fun X => X.cell? ⟨g, 0, none⟩ = some (.int .i64 z0) ∧ X.cell? ⟨g, 1, none⟩ = some (.int .i64 z1) ∧ X.cell? ⟨g, 2, none⟩ = some (.int .i64 z2) ∧ X.cell? ⟨g, 3, none⟩ = some (.int .i64 z3) ∧ X.cell? ⟨g, 4, none⟩ = some (.int .i64 z4) ∧ X.cell? ⟨g, 5, none⟩ = some (.int .i64 z5) ∧ X.cell? ⟨g, 6, none⟩ = some (.int .i64 z6)) X := fun X hG => ⟨hG.cell 0, hG.cell 1, hG.cell 2, hG.cell 3, hG.cell 4, hG.cell 5, hG.cell 6⟩
            have LG0 := Lib.hid (HG.out.drew)
            have E0 := Lib.hid (EE.out.drew)
            clear kG0 kG1 kG2 kG3 kG4 kG5 kG6
            refine wp_region_held_drew (S := (fun X => X.cell? ⟨g, 0, none⟩ = some (.int .i64 z0) ∧ X.cell? ⟨g, 1, none⟩ = some (.int .i64 z1) ∧ X.cell? ⟨g, 2, none⟩ = some (.int .i64 z2) ∧ X.cell? ⟨g, 3, none⟩ = some (.int .i64 z3) ∧ X.cell? ⟨g, 4, none⟩ = some (.int .i64 z4) ∧ X.cell? ⟨g, 5, none⟩ = some (.int .i64 z5) ∧ X.cell? ⟨g, 6, none⟩ = some (.int .i64 z6))) (by kernel_rfl) (sK _ LG0.out) (fun hHeld => ?_)
            clear hHeld
            refine wpAnyH_take (i := 0) (v := ?_) rfl (by kernel_rfl) (by kernel_rfl) (by kernel_rfl) (fun _ _ _ h => h) (Or.inl ⟨by rfl, ?_⟩) (sK _ LG0.out) ?_
            rotate_left
            · (intro wS hSw; (try dsimp only at hSw); go_simp; try with_reducible rfl)
            simp only [Act.put, List.getElem_toArray, List.getElem_cons_zero, List.getElem_cons_succ, List.setIfInBounds_toArray, List.set_cons_zero, List.set_cons_succ]
            refine wpAnyH_take (i := 1) (v := ?_) rfl (by kernel_rfl) (by kernel_rfl) (by kernel_rfl) (fun _ _ _ h => h) (Or.inl ⟨by rfl, ?_⟩) (sK _ LG0.out) ?_
            rotate_left
            · (intro wS hSw; (try dsimp only at hSw); go_simp; try with_reducible rfl)
            simp only [Act.put, List.getElem_toArray, List.getElem_cons_zero, List.getElem_cons_succ, List.setIfInBounds_toArray, List.set_cons_zero, List.set_cons_succ]
            refine wpAnyH_take (i := 2) (v := ?_) rfl (by kernel_rfl) (by kernel_rfl) (by kernel_rfl) (fun _ _ _ h => h) (Or.inl ⟨by rfl, ?_⟩) (sK _ LG0.out) ?_
            rotate_left
            · (intro wS hSw; (try dsimp only at hSw); go_simp; try with_reducible rfl)
            simp only [Act.put, List.getElem_toArray, List.getElem_cons_zero, List.getElem_cons_succ, List.setIfInBounds_toArray, List.set_cons_zero, List.set_cons_succ]
            refine wpAnyH_take (i := 3) (v := ?_) rfl (by kernel_rfl) (by kernel_rfl) (by kernel_rfl) (fun _ _ _ h => h) (Or.inl ⟨by rfl, ?_⟩) (sK _ LG0.out) ?_
            rotate_left
            · (intro wS hSw; (try dsimp only at hSw); go_simp; try with_reducible rfl)
            simp only [Act.put, List.getElem_toArray, List.getElem_cons_zero, List.getElem_cons_succ, List.setIfInBounds_toArray, List.set_cons_zero, List.set_cons_succ]
            refine wpAnyH_take (i := 4) (v := ?_) rfl (by kernel_rfl) (by kernel_rfl) (by kernel_rfl) (fun _ _ _ h => h) (Or.inl ⟨by rfl, ?_⟩) (sK _ LG0.out) ?_
            rotate_left
            · (intro wS hSw; (try dsimp only at hSw); go_simp; try with_reducible rfl)
            simp only [Act.put, List.getElem_toArray, List.getElem_cons_zero, List.getElem_cons_succ, List.setIfInBounds_toArray, List.set_cons_zero, List.set_cons_succ]
            refine wpAnyH_take (i := 5) (v := ?_) rfl (by kernel_rfl) (by kernel_rfl) (by kernel_rfl) (fun _ _ _ h => h) (Or.inl ⟨by rfl, ?_⟩) (sK _ LG0.out) ?_
            rotate_left
            · (intro wS hSw; (try dsimp only at hSw); go_simp; try with_reducible rfl)
            simp only [Act.put, List.getElem_toArray, List.getElem_cons_zero, List.getElem_cons_succ, List.setIfInBounds_toArray, List.set_cons_zero, List.set_cons_succ]
            refine wpAnyH_ready (rs := [6, 8]) (by kernel_rfl) (by simp) ?_
            refine AllReadyH.cons rfl (fun K hK => ?_) (AllReadyH.cons rfl (fun K hK => ?_) AllReadyH.nil)
            skip
            · go_simp
              refine hK.out _ _ (sK _ LG0.out) (fun hHeld => ?_)
              clear hK K hHeld
              try simp only [Act.put, List.getElem_toArray, List.getElem_cons_zero, List.getElem_cons_succ, List.setIfInBounds_toArray, List.set_cons_zero, List.set_cons_succ]
              refine wpAnyH_take (i := 7) (v := ?_) rfl (by kernel_rfl) (by kernel_rfl) (by kernel_rfl) (fun _ _ _ h => h) (Or.inl ⟨by rfl, ?_⟩) (sK _ LG0.out) ?_
              rotate_left
              · (intro wS hSw; (try dsimp only at hSw); go_simp; try with_reducible rfl)
              simp only [Act.put, List.getElem_toArray, List.getElem_cons_zero, List.getElem_cons_succ, List.setIfInBounds_toArray, List.set_cons_zero, List.set_cons_succ]
              refine wpAnyH_ready (rs := [8]) (by kernel_rfl) (by simp) ?_
              refine AllReadyH.cons rfl (fun K hK => ?_) AllReadyH.nil
              go_simp
              refine hK.out _ _ (sK _ G1.out) (fun hHeld => ?_)
              clear hK K hHeld
              try simp only [Act.put, List.getElem_toArray, List.getElem_cons_zero, List.getElem_cons_succ, List.setIfInBounds_toArray, List.set_cons_zero, List.set_cons_succ]
              refine wpAnyH_take (i := 9) (v := ?_) rfl (by kernel_rfl) (by kernel_rfl) (by kernel_rfl) (fun _ _ _ h => h) (Or.inl ⟨by rfl, ?_⟩) (sK _ G1.out) ?_
              rotate_left
              · (intro wS hSw; (try dsimp only at hSw); go_simp; try with_reducible rfl)
              simp only [Act.put, List.getElem_toArray, List.getElem_cons_zero, List.getElem_cons_succ, List.setIfInBounds_toArray, List.set_cons_zero, List.set_cons_succ]
              refine wpAnyH_ready (rs := [10]) (by kernel_rfl) (by simp) ?_
              refine AllReadyH.cons rfl (fun K hK => ?_) AllReadyH.nil
              go_simp
              refine hK.out _ _ (sK _ GB.out) (fun hHeld => ?_)
              clear hK K hHeld
              try simp only [Act.put, List.getElem_toArray, List.getElem_cons_zero, List.getElem_cons_succ, List.setIfInBounds_toArray, List.set_cons_zero, List.set_cons_succ]
              refine wpAnyH_done (by kernel_rfl) ?_ _
              have OF : Hid (W4.ownsMap Try.prog 50 (plainElem (H := Unit) Try.prog 3) w.heap.size (2 * (k + 1)) (stD z (k + 1))) := Lib.hid (by rw [ES.out, e6]; exact own_le OW2.out (by omega))
              have EF := EB
              clear gl ge gl1 gs2
              go_wp2_with fail
              go_roundw
              case rel => exact ⟨k + 1, by omega, by go_num, OF.out, EF.out⟩
              case measure => simp [intOf]; omega
            · go_simp
              refine hK.out _ _ (sK _ G1.out) (fun hHeld => ?_)
              clear hK K hHeld
              try simp only [Act.put, List.getElem_toArray, List.getElem_cons_zero, List.getElem_cons_succ, List.setIfInBounds_toArray, List.set_cons_zero, List.set_cons_succ]
              refine wpAnyH_take (i := 9) (v := ?_) rfl (by kernel_rfl) (by kernel_rfl) (by kernel_rfl) (fun _ _ _ h => h) (Or.inl ⟨by rfl, ?_⟩) (sK _ G1.out) ?_
              rotate_left
              · (intro wS hSw; (try dsimp only at hSw); go_simp; try with_reducible rfl)
              simp only [Act.put, List.getElem_toArray, List.getElem_cons_zero, List.getElem_cons_succ, List.setIfInBounds_toArray, List.set_cons_zero, List.set_cons_succ]
              refine wpAnyH_ready (rs := [6]) (by kernel_rfl) (by simp) ?_
              refine AllReadyH.cons rfl (fun K hK => ?_) AllReadyH.nil
              go_simp
              refine hK.out _ _ (sK _ G1.out) (fun hHeld => ?_)
              clear hK K hHeld
              try simp only [Act.put, List.getElem_toArray, List.getElem_cons_zero, List.getElem_cons_succ, List.setIfInBounds_toArray, List.set_cons_zero, List.set_cons_succ]
              refine wpAnyH_take (i := 7) (v := ?_) rfl (by kernel_rfl) (by kernel_rfl) (by kernel_rfl) (fun _ _ _ h => h) (Or.inl ⟨by rfl, ?_⟩) (sK _ G1.out) ?_
              rotate_left
              · (intro wS hSw; (try dsimp only at hSw); go_simp; try with_reducible rfl)
              simp only [Act.put, List.getElem_toArray, List.getElem_cons_zero, List.getElem_cons_succ, List.setIfInBounds_toArray, List.set_cons_zero, List.set_cons_succ]
              refine wpAnyH_ready (rs := [10]) (by kernel_rfl) (by simp) ?_
              refine AllReadyH.cons rfl (fun K hK => ?_) AllReadyH.nil
              go_simp
              refine hK.out _ _ (sK _ GB.out) (fun hHeld => ?_)
              clear hK K hHeld
              try simp only [Act.put, List.getElem_toArray, List.getElem_cons_zero, List.getElem_cons_succ, List.setIfInBounds_toArray, List.set_cons_zero, List.set_cons_succ]
              refine wpAnyH_done (by kernel_rfl) ?_ _
              have OF : Hid (W4.ownsMap Try.prog 50 (plainElem (H := Unit) Try.prog 3) w.heap.size (2 * (k + 1)) (stD z (k + 1))) := Lib.hid (by rw [ES.out, e6]; exact own_le OW2.out (by omega))
              have EF := EB
              clear gl ge gl1 gs2
              go_wp2_with fail
              go_roundw
              case rel => exact ⟨k + 1, by omega, by go_num, OF.out, EF.out⟩
              case measure => simp [intOf]; omega
          · have e6 : D2 = D1 := by rw [O0.out, if_neg c6]
            have OF : Hid (W2.ownsMap Try.prog 50 (plainElem (H := Unit) Try.prog 3) w.heap.size (2 * (k + 1)) (stD z (k + 1))) := Lib.hid (by rw [ES.out, e6]; exact own_le OW.out (by omega))
            have EF := EE
            have kG0 : W2.cell? ⟨g, 0, none⟩ = some (.int .i64 z0) := HG.out.cell 0
            have kG1 : W2.cell? ⟨g, 1, none⟩ = some (.int .i64 z1) := HG.out.cell 1
            have kG2 : W2.cell? ⟨g, 2, none⟩ = some (.int .i64 z2) := HG.out.cell 2
            have kG3 : W2.cell? ⟨g, 3, none⟩ = some (.int .i64 z3) := HG.out.cell 3
            have kG4 : W2.cell? ⟨g, 4, none⟩ = some (.int .i64 z4) := HG.out.cell 4
            have kG5 : W2.cell? ⟨g, 5, none⟩ = some (.int .i64 z5) := HG.out.cell 5
            have kG6 : W2.cell? ⟨g, 6, none⟩ = some (.int .i64 z6) := HG.out.cell 6
            go_wp2_with fail
            go_roundw
            case rel => exact ⟨k + 1, by omega, by go_num, OF.out, EF.out⟩
            case measure => simp [intOf]; omega
        · go_simp
          refine hK.out _ _ (sK _ G1.out) (fun hHeld => ?_)
          clear hK K hHeld
          try simp only [Act.put, List.getElem_toArray, List.getElem_cons_zero, List.getElem_cons_succ, List.setIfInBounds_toArray, List.set_cons_zero, List.set_cons_succ]
          refine wpAnyH_take (i := 9) (v := ?_) rfl (by kernel_rfl) (by kernel_rfl) (by kernel_rfl) (fun _ _ _ h => h) (Or.inl ⟨by rfl, ?_⟩) (sK _ G1.out) ?_
          rotate_left
          · (intro wS hSw; (try dsimp only at hSw); go_simp; try with_reducible rfl)
          simp only [Act.put, List.getElem_toArray, List.getElem_cons_zero, List.getElem_cons_succ, List.setIfInBounds_toArray, List.set_cons_zero, List.set_cons_succ]
          refine wpAnyH_ready (rs := [6]) (by kernel_rfl) (by simp) ?_
          refine AllReadyH.cons rfl (fun K hK => ?_) AllReadyH.nil
          go_simp
          refine hK.out _ _ (sK _ G1.out) (fun hHeld => ?_)
          clear hK K hHeld
          try simp only [Act.put, List.getElem_toArray, List.getElem_cons_zero, List.getElem_cons_succ, List.setIfInBounds_toArray, List.set_cons_zero, List.set_cons_succ]
          refine wpAnyH_take (i := 7) (v := ?_) rfl (by kernel_rfl) (by kernel_rfl) (by kernel_rfl) (fun _ _ _ h => h) (Or.inl ⟨by rfl, ?_⟩) (sK _ G1.out) ?_
          rotate_left
          · (intro wS hSw; (try dsimp only at hSw); go_simp; try with_reducible rfl)
          simp only [Act.put, List.getElem_toArray, List.getElem_cons_zero, List.getElem_cons_succ, List.setIfInBounds_toArray, List.set_cons_zero, List.set_cons_succ]
          refine wpAnyH_ready (rs := [10]) (by kernel_rfl) (by simp) ?_
          refine AllReadyH.cons rfl (fun K hK => ?_) AllReadyH.nil
          go_simp
          refine hK.out _ _ (sK _ GB.out) (fun hHeld => ?_)
          clear hK K hHeld
          try simp only [Act.put, List.getElem_toArray, List.getElem_cons_zero, List.getElem_cons_succ, List.setIfInBounds_toArray, List.set_cons_zero, List.set_cons_succ]
          refine wpAnyH_done (by kernel_rfl) ?_ _
          have OW : Hid (W2.ownsMap Try.prog 50 (plainElem (H := Unit) Try.prog 3) w.heap.size (2 * k + 1) D1) := Lib.hid (by rw [e5]; exact OW2.out)
          have EE := EB
          have HG := GB
          clear gl ge gl1 gs2 OW2 EB GB G1
          clear sK LG0 E0
          skip
          by_cases c6 : 0 ≤ z6
          · have e6 : D2 = incD D1 z4 z3 := by rw [O0.out, if_pos c6]
            have kG0 : W2.cell? ⟨g, 0, none⟩ = some (.int .i64 z0) := HG.out.cell 0
            have kG1 : W2.cell? ⟨g, 1, none⟩ = some (.int .i64 z1) := HG.out.cell 1
            have kG2 : W2.cell? ⟨g, 2, none⟩ = some (.int .i64 z2) := HG.out.cell 2
            have kG3 : W2.cell? ⟨g, 3, none⟩ = some (.int .i64 z3) := HG.out.cell 3
            have kG4 : W2.cell? ⟨g, 4, none⟩ = some (.int .i64 z4) := HG.out.cell 4
            have kG5 : W2.cell? ⟨g, 5, none⟩ = some (.int .i64 z5) := HG.out.cell 5
            have kG6 : W2.cell? ⟨g, 6, none⟩ = some (.int .i64 z6) := HG.out.cell 6
            go_wp2_with fail
            obtain ⟨c, v0, st, W3, ga, gw, gl, ge, gl1, gg1, gs⟩ := inc_own (w := W2.drew) stopKL Try.underlying51 Try.underlying3 zeroInt (OW.out.drew) (by unfold maxLen; omega) (key_of o4 o3)
            have hc : atD D1 z4 z3 = c := by unfold atD litI; rw [ga]
            have hc1 : okI (c + 1) := okI_bd (by omega) (by omega)
            have w1 : IntKind.i64.wrap (c + 1) = c + 1 := IntWalk.i64_in _ (by omega)
            obtain ⟨W4, gs2, go2, gg2⟩ := gs (c + 1) hc1
            have hinc : D1.put (kS z4 z3) (.lit (.int .i64 (c + 1))) = incD D1 z4 z3 := by unfold incD litI; rw [hc]
            rw [hinc] at go2
            have OW2 := Lib.hid go2
            obtain ⟨stv, hstv⟩ : ∃ q, goInt (st : Int) = q := ⟨_, rfl⟩
            rw [hstv] at ge gs2
            have EB := Lib.hid ((EE.out.drew).grown gg2 EE.out.drew.size (fun q hq => by cases hq; exact Nat.le_refl _))
            have GB := Lib.hid (blk_grownM (w := W2.drew) HG.out gg2 (by omega))
            have G1 := Lib.hid (blk_grownM (w := W2.drew) HG.out gg1 (by omega))
            unfold stV at gl ge gl1
            clear ga gw gs gg1 gg2 go2 hstv hinc hc hc1
            have sK : ∀ X, Blk X (g) 34 #[.int .i64 z0, .int .i64 z1, .int .i64 z2, .int .i64 z3, .int .i64 z4, .int .i64 z5, .int .i64 z6] → (fun X => X.cell? ⟨g, 0, none⟩ = some (.int .i64 z0) ∧ X.cell? ⟨g, 1, none⟩ = some (.int .i64 z1) ∧ X.cell? ⟨g, 2, none⟩ = some (.int .i64 z2) ∧ X.cell? ⟨g, 3, none⟩ = some (.int .i64 z3) ∧ X.cell? ⟨g, 4, none⟩ = some (.int .i64 z4) ∧ X.cell? ⟨g, 5, none⟩ = some (.int .i64 z5) ∧ X.cell? ⟨g, 6, none⟩ = some (.int .i64 z6)) X := fun X hG => ⟨hG.cell 0, hG.cell 1, hG.cell 2, hG.cell 3, hG.cell 4, hG.cell 5, hG.cell 6⟩
            have LG0 := Lib.hid (HG.out.drew)
            have E0 := Lib.hid (EE.out.drew)
            clear kG0 kG1 kG2 kG3 kG4 kG5 kG6
            refine wp_region_held_drew (S := (fun X => X.cell? ⟨g, 0, none⟩ = some (.int .i64 z0) ∧ X.cell? ⟨g, 1, none⟩ = some (.int .i64 z1) ∧ X.cell? ⟨g, 2, none⟩ = some (.int .i64 z2) ∧ X.cell? ⟨g, 3, none⟩ = some (.int .i64 z3) ∧ X.cell? ⟨g, 4, none⟩ = some (.int .i64 z4) ∧ X.cell? ⟨g, 5, none⟩ = some (.int .i64 z5) ∧ X.cell? ⟨g, 6, none⟩ = some (.int .i64 z6))) (by kernel_rfl) (sK _ LG0.out) (fun hHeld => ?_)
            clear hHeld
            refine wpAnyH_take (i := 0) (v := ?_) rfl (by kernel_rfl) (by kernel_rfl) (by kernel_rfl) (fun _ _ _ h => h) (Or.inl ⟨by rfl, ?_⟩) (sK _ LG0.out) ?_
            rotate_left
            · (intro wS hSw; (try dsimp only at hSw); go_simp; try with_reducible rfl)
            simp only [Act.put, List.getElem_toArray, List.getElem_cons_zero, List.getElem_cons_succ, List.setIfInBounds_toArray, List.set_cons_zero, List.set_cons_succ]
            refine wpAnyH_take (i := 1) (v := ?_) rfl (by kernel_rfl) (by kernel_rfl) (by kernel_rfl) (fun _ _ _ h => h) (Or.inl ⟨by rfl, ?_⟩) (sK _ LG0.out) ?_
            rotate_left
            · (intro wS hSw; (try dsimp only at hSw); go_simp; try with_reducible rfl)
            simp only [Act.put, List.getElem_toArray, List.getElem_cons_zero, List.getElem_cons_succ, List.setIfInBounds_toArray, List.set_cons_zero, List.set_cons_succ]
            refine wpAnyH_take (i := 2) (v := ?_) rfl (by kernel_rfl) (by kernel_rfl) (by kernel_rfl) (fun _ _ _ h => h) (Or.inl ⟨by rfl, ?_⟩) (sK _ LG0.out) ?_
            rotate_left
            · (intro wS hSw; (try dsimp only at hSw); go_simp; try with_reducible rfl)
            simp only [Act.put, List.getElem_toArray, List.getElem_cons_zero, List.getElem_cons_succ, List.setIfInBounds_toArray, List.set_cons_zero, List.set_cons_succ]
            refine wpAnyH_take (i := 3) (v := ?_) rfl (by kernel_rfl) (by kernel_rfl) (by kernel_rfl) (fun _ _ _ h => h) (Or.inl ⟨by rfl, ?_⟩) (sK _ LG0.out) ?_
            rotate_left
            · (intro wS hSw; (try dsimp only at hSw); go_simp; try with_reducible rfl)
            simp only [Act.put, List.getElem_toArray, List.getElem_cons_zero, List.getElem_cons_succ, List.setIfInBounds_toArray, List.set_cons_zero, List.set_cons_succ]
            refine wpAnyH_take (i := 4) (v := ?_) rfl (by kernel_rfl) (by kernel_rfl) (by kernel_rfl) (fun _ _ _ h => h) (Or.inl ⟨by rfl, ?_⟩) (sK _ LG0.out) ?_
            rotate_left
            · (intro wS hSw; (try dsimp only at hSw); go_simp; try with_reducible rfl)
            simp only [Act.put, List.getElem_toArray, List.getElem_cons_zero, List.getElem_cons_succ, List.setIfInBounds_toArray, List.set_cons_zero, List.set_cons_succ]
            refine wpAnyH_take (i := 5) (v := ?_) rfl (by kernel_rfl) (by kernel_rfl) (by kernel_rfl) (fun _ _ _ h => h) (Or.inl ⟨by rfl, ?_⟩) (sK _ LG0.out) ?_
            rotate_left
            · (intro wS hSw; (try dsimp only at hSw); go_simp; try with_reducible rfl)
            simp only [Act.put, List.getElem_toArray, List.getElem_cons_zero, List.getElem_cons_succ, List.setIfInBounds_toArray, List.set_cons_zero, List.set_cons_succ]
            refine wpAnyH_ready (rs := [6, 8]) (by kernel_rfl) (by simp) ?_
            refine AllReadyH.cons rfl (fun K hK => ?_) (AllReadyH.cons rfl (fun K hK => ?_) AllReadyH.nil)
            skip
            · go_simp
              refine hK.out _ _ (sK _ LG0.out) (fun hHeld => ?_)
              clear hK K hHeld
              try simp only [Act.put, List.getElem_toArray, List.getElem_cons_zero, List.getElem_cons_succ, List.setIfInBounds_toArray, List.set_cons_zero, List.set_cons_succ]
              refine wpAnyH_take (i := 7) (v := ?_) rfl (by kernel_rfl) (by kernel_rfl) (by kernel_rfl) (fun _ _ _ h => h) (Or.inl ⟨by rfl, ?_⟩) (sK _ LG0.out) ?_
              rotate_left
              · (intro wS hSw; (try dsimp only at hSw); go_simp; try with_reducible rfl)
              simp only [Act.put, List.getElem_toArray, List.getElem_cons_zero, List.getElem_cons_succ, List.setIfInBounds_toArray, List.set_cons_zero, List.set_cons_succ]
              refine wpAnyH_ready (rs := [8]) (by kernel_rfl) (by simp) ?_
              refine AllReadyH.cons rfl (fun K hK => ?_) AllReadyH.nil
              go_simp
              refine hK.out _ _ (sK _ G1.out) (fun hHeld => ?_)
              clear hK K hHeld
              try simp only [Act.put, List.getElem_toArray, List.getElem_cons_zero, List.getElem_cons_succ, List.setIfInBounds_toArray, List.set_cons_zero, List.set_cons_succ]
              refine wpAnyH_take (i := 9) (v := ?_) rfl (by kernel_rfl) (by kernel_rfl) (by kernel_rfl) (fun _ _ _ h => h) (Or.inl ⟨by rfl, ?_⟩) (sK _ G1.out) ?_
              rotate_left
              · (intro wS hSw; (try dsimp only at hSw); go_simp; try with_reducible rfl)
              simp only [Act.put, List.getElem_toArray, List.getElem_cons_zero, List.getElem_cons_succ, List.setIfInBounds_toArray, List.set_cons_zero, List.set_cons_succ]
              refine wpAnyH_ready (rs := [10]) (by kernel_rfl) (by simp) ?_
              refine AllReadyH.cons rfl (fun K hK => ?_) AllReadyH.nil
              go_simp
              refine hK.out _ _ (sK _ GB.out) (fun hHeld => ?_)
              clear hK K hHeld
              try simp only [Act.put, List.getElem_toArray, List.getElem_cons_zero, List.getElem_cons_succ, List.setIfInBounds_toArray, List.set_cons_zero, List.set_cons_succ]
              refine wpAnyH_done (by kernel_rfl) ?_ _
              have OF : Hid (W4.ownsMap Try.prog 50 (plainElem (H := Unit) Try.prog 3) w.heap.size (2 * (k + 1)) (stD z (k + 1))) := Lib.hid (by rw [ES.out, e6]; exact own_le OW2.out (by omega))
              have EF := EB
              clear gl ge gl1 gs2
              go_wp2_with fail
              go_roundw
              case rel => exact ⟨k + 1, by omega, by go_num, OF.out, EF.out⟩
              case measure => simp [intOf]; omega
            · go_simp
              refine hK.out _ _ (sK _ G1.out) (fun hHeld => ?_)
              clear hK K hHeld
              try simp only [Act.put, List.getElem_toArray, List.getElem_cons_zero, List.getElem_cons_succ, List.setIfInBounds_toArray, List.set_cons_zero, List.set_cons_succ]
              refine wpAnyH_take (i := 9) (v := ?_) rfl (by kernel_rfl) (by kernel_rfl) (by kernel_rfl) (fun _ _ _ h => h) (Or.inl ⟨by rfl, ?_⟩) (sK _ G1.out) ?_
              rotate_left
              · (intro wS hSw; (try dsimp only at hSw); go_simp; try with_reducible rfl)
              simp only [Act.put, List.getElem_toArray, List.getElem_cons_zero, List.getElem_cons_succ, List.setIfInBounds_toArray, List.set_cons_zero, List.set_cons_succ]
              refine wpAnyH_ready (rs := [6]) (by kernel_rfl) (by simp) ?_
              refine AllReadyH.cons rfl (fun K hK => ?_) AllReadyH.nil
              go_simp
              refine hK.out _ _ (sK _ G1.out) (fun hHeld => ?_)
              clear hK K hHeld
              try simp only [Act.put, List.getElem_toArray, List.getElem_cons_zero, List.getElem_cons_succ, List.setIfInBounds_toArray, List.set_cons_zero, List.set_cons_succ]
              refine wpAnyH_take (i := 7) (v := ?_) rfl (by kernel_rfl) (by kernel_rfl) (by kernel_rfl) (fun _ _ _ h => h) (Or.inl ⟨by rfl, ?_⟩) (sK _ G1.out) ?_
              rotate_left
              · (intro wS hSw; (try dsimp only at hSw); go_simp; try with_reducible rfl)
              simp only [Act.put, List.getElem_toArray, List.getElem_cons_zero, List.getElem_cons_succ, List.setIfInBounds_toArray, List.set_cons_zero, List.set_cons_succ]
              refine wpAnyH_ready (rs := [10]) (by kernel_rfl) (by simp) ?_
              refine AllReadyH.cons rfl (fun K hK => ?_) AllReadyH.nil
              go_simp
              refine hK.out _ _ (sK _ GB.out) (fun hHeld => ?_)
              clear hK K hHeld
              try simp only [Act.put, List.getElem_toArray, List.getElem_cons_zero, List.getElem_cons_succ, List.setIfInBounds_toArray, List.set_cons_zero, List.set_cons_succ]
              refine wpAnyH_done (by kernel_rfl) ?_ _
              have OF : Hid (W4.ownsMap Try.prog 50 (plainElem (H := Unit) Try.prog 3) w.heap.size (2 * (k + 1)) (stD z (k + 1))) := Lib.hid (by rw [ES.out, e6]; exact own_le OW2.out (by omega))
              have EF := EB
              clear gl ge gl1 gs2
              go_wp2_with fail
              go_roundw
              case rel => exact ⟨k + 1, by omega, by go_num, OF.out, EF.out⟩
              case measure => simp [intOf]; omega
          · have e6 : D2 = D1 := by rw [O0.out, if_neg c6]
            have OF : Hid (W2.ownsMap Try.prog 50 (plainElem (H := Unit) Try.prog 3) w.heap.size (2 * (k + 1)) (stD z (k + 1))) := Lib.hid (by rw [ES.out, e6]; exact own_le OW.out (by omega))
            have EF := EE
            have kG0 : W2.cell? ⟨g, 0, none⟩ = some (.int .i64 z0) := HG.out.cell 0
            have kG1 : W2.cell? ⟨g, 1, none⟩ = some (.int .i64 z1) := HG.out.cell 1
            have kG2 : W2.cell? ⟨g, 2, none⟩ = some (.int .i64 z2) := HG.out.cell 2
            have kG3 : W2.cell? ⟨g, 3, none⟩ = some (.int .i64 z3) := HG.out.cell 3
            have kG4 : W2.cell? ⟨g, 4, none⟩ = some (.int .i64 z4) := HG.out.cell 4
            have kG5 : W2.cell? ⟨g, 5, none⟩ = some (.int .i64 z5) := HG.out.cell 5
            have kG6 : W2.cell? ⟨g, 6, none⟩ = some (.int .i64 z6) := HG.out.cell 6
            go_wp2_with fail
            go_roundw
            case rel => exact ⟨k + 1, by omega, by go_num, OF.out, EF.out⟩
            case measure => simp [intOf]; omega
      · have e5 : D1 = D0 := by rw [I0.out, if_neg c5]
        subst e5
        by_cases c6 : 0 ≤ z6
        · have e6 : D2 = incD D1 z4 z3 := by rw [O0.out, if_pos c6]
          have kA0 : wr.cell? ⟨b, o + k * 7, none⟩ = some (.int .i64 z0) := HA.out 0 _ rfl
          have kA1 : wr.cell? ⟨b, o + k * 7 + 1, none⟩ = some (.int .i64 z1) := HA.out 1 _ rfl
          have kA2 : wr.cell? ⟨b, o + k * 7 + 2, none⟩ = some (.int .i64 z2) := HA.out 2 _ rfl
          have kA3 : wr.cell? ⟨b, o + k * 7 + 3, none⟩ = some (.int .i64 z3) := HA.out 3 _ rfl
          have kA4 : wr.cell? ⟨b, o + k * 7 + 4, none⟩ = some (.int .i64 z4) := HA.out 4 _ rfl
          have kA5 : wr.cell? ⟨b, o + k * 7 + 5, none⟩ = some (.int .i64 z5) := HA.out 5 _ rfl
          have kA6 : wr.cell? ⟨b, o + k * 7 + 6, none⟩ = some (.int .i64 z6) := HA.out 6 _ rfl
          go_wp2_with fail
          clear kA0 kA1 kA2 kA3 kA4 kA5 kA6
          have GA : At (wr.alloc (.cells #[.int .i64 z0, .int .i64 z1, .int .i64 z2, .int .i64 z3, .int .i64 z4, .int .i64 z5, .int .i64 z6] 34)) b (o + k * 7) #[.int .i64 z0, .int .i64 z1, .int .i64 z2, .int .i64 z3, .int .i64 z4, .int .i64 z5, .int .i64 z6] := HA.out.alloc (.cells #[.int .i64 z0, .int .i64 z1, .int .i64 z2, .int .i64 z3, .int .i64 z4, .int .i64 z5, .int .i64 z6] 34)
          have GG : Blk (wr.alloc (.cells #[.int .i64 z0, .int .i64 z1, .int .i64 z2, .int .i64 z3, .int .i64 z4, .int .i64 z5, .int .i64 z6] 34)) (wr.heap.size) 34 #[.int .i64 z0, .int .i64 z1, .int .i64 z2, .int .i64 z3, .int .i64 z4, .int .i64 z5, .int .i64 z6] := Blk.new wr _ _
          have GE : Below w.heap.size w (wr.alloc (.cells #[.int .i64 z0, .int .i64 z1, .int .i64 z2, .int .i64 z3, .int .i64 z4, .int .i64 z5, .int .i64 z6] 34)) := EE.out.alloc EE.out.size (.cells #[.int .i64 z0, .int .i64 z1, .int .i64 z2, .int .i64 z3, .int .i64 z4, .int .i64 z5, .int .i64 z6] 34)
          obtain ⟨g, hg⟩ : ∃ g, wr.heap.size = g := ⟨_, rfl⟩
          have geg : w.heap.size ≤ g := by have := EE.out.size; omega
          have geM : w.heap.size < g := by have := OW.out.lt; omega
          rw [hg] at GG ⊢
          clear hg
          obtain ⟨v21, hv21⟩ : ∃ V, (wr.alloc (.cells #[.int .i64 z0, .int .i64 z1, .int .i64 z2, .int .i64 z3, .int .i64 z4, .int .i64 z5, .int .i64 z6] 34)) = V := ⟨_, rfl⟩
          have GOW := OW.out.alloc (.cells #[.int .i64 z0, .int .i64 z1, .int .i64 z2, .int .i64 z3, .int .i64 z4, .int .i64 z5, .int .i64 z6] 34)
          rw [hv21] at GA GG GE GOW ⊢
          have OW := Lib.hid GOW
          have HA := Lib.hid GA
          have HG := Lib.hid GG
          have EE := Lib.hid GE
          clear hv21 GA GG GE GOW
          have kA0 : v21.cell? ⟨b, o + k * 7, none⟩ = some (.int .i64 z0) := HA.out 0 _ rfl
          have kA1 : v21.cell? ⟨b, o + k * 7 + 1, none⟩ = some (.int .i64 z1) := HA.out 1 _ rfl
          have kA2 : v21.cell? ⟨b, o + k * 7 + 2, none⟩ = some (.int .i64 z2) := HA.out 2 _ rfl
          have kA3 : v21.cell? ⟨b, o + k * 7 + 3, none⟩ = some (.int .i64 z3) := HA.out 3 _ rfl
          have kA4 : v21.cell? ⟨b, o + k * 7 + 4, none⟩ = some (.int .i64 z4) := HA.out 4 _ rfl
          have kA5 : v21.cell? ⟨b, o + k * 7 + 5, none⟩ = some (.int .i64 z5) := HA.out 5 _ rfl
          have kA6 : v21.cell? ⟨b, o + k * 7 + 6, none⟩ = some (.int .i64 z6) := HA.out 6 _ rfl
          have kG0 : v21.cell? ⟨g, 0, none⟩ = some (.int .i64 z0) := HG.out.cell 0
          have kG1 : v21.cell? ⟨g, 1, none⟩ = some (.int .i64 z1) := HG.out.cell 1
          have kG2 : v21.cell? ⟨g, 2, none⟩ = some (.int .i64 z2) := HG.out.cell 2
          have kG3 : v21.cell? ⟨g, 3, none⟩ = some (.int .i64 z3) := HG.out.cell 3
          have kG4 : v21.cell? ⟨g, 4, none⟩ = some (.int .i64 z4) := HG.out.cell 4
          have kG5 : v21.cell? ⟨g, 5, none⟩ = some (.int .i64 z5) := HG.out.cell 5
          have kG6 : v21.cell? ⟨g, 6, none⟩ = some (.int .i64 z6) := HG.out.cell 6
          obtain ⟨c, v0, st, W3, ga, gw, gl, ge, gl1, gg1, gs⟩ := inc_own (w := v21.drew) stopKL Try.underlying51 Try.underlying3 zeroInt (OW.out.drew) (by unfold maxLen; omega) (key_of o4 o3)
          have hc : atD D1 z4 z3 = c := by unfold atD litI; rw [ga]
          have hc1 : okI (c + 1) := okI_bd (by omega) (by omega)
          have w1 : IntKind.i64.wrap (c + 1) = c + 1 := IntWalk.i64_in _ (by omega)
          obtain ⟨W4, gs2, go2, gg2⟩ := gs (c + 1) hc1
          have hinc : D1.put (kS z4 z3) (.lit (.int .i64 (c + 1))) = incD D1 z4 z3 := by unfold incD litI; rw [hc]
          rw [hinc] at go2
          have OW2 := Lib.hid go2
          obtain ⟨stv, hstv⟩ : ∃ q, goInt (st : Int) = q := ⟨_, rfl⟩
          rw [hstv] at ge gs2
          have EB := Lib.hid ((EE.out.drew).grown gg2 EE.out.drew.size (fun q hq => by cases hq; exact Nat.le_refl _))
          have GB := Lib.hid (blk_grownM (w := v21.drew) HG.out gg2 (by omega))
          have G1 := Lib.hid (blk_grownM (w := v21.drew) HG.out gg1 (by omega))
          unfold stV at gl ge gl1
          clear ga gw gs gg1 gg2 go2 hstv hinc hc hc1
          have sK : ∀ X, Blk X (g) 34 #[.int .i64 z0, .int .i64 z1, .int .i64 z2, .int .i64 z3, .int .i64 z4, .int .i64 z5, .int .i64 z6] → (fun X => X.cell? ⟨g, 0, none⟩ = some (.int .i64 z0) ∧ X.cell? ⟨g, 1, none⟩ = some (.int .i64 z1) ∧ X.cell? ⟨g, 2, none⟩ = some (.int .i64 z2) ∧ X.cell? ⟨g, 3, none⟩ = some (.int .i64 z3) ∧ X.cell? ⟨g, 4, none⟩ = some (.int .i64 z4) ∧ X.cell? ⟨g, 5, none⟩ = some (.int .i64 z5) ∧ X.cell? ⟨g, 6, none⟩ = some (.int .i64 z6)) X := fun X hG => ⟨hG.cell 0, hG.cell 1, hG.cell 2, hG.cell 3, hG.cell 4, hG.cell 5, hG.cell 6⟩
          have LG0 := Lib.hid (HG.out.drew)
          have E0 := Lib.hid (EE.out.drew)
          clear kA0 kA1 kA2 kA3 kA4 kA5 kA6 kG0 kG1 kG2 kG3 kG4 kG5 kG6
          refine wp_region_held_drew (S := (fun X => X.cell? ⟨g, 0, none⟩ = some (.int .i64 z0) ∧ X.cell? ⟨g, 1, none⟩ = some (.int .i64 z1) ∧ X.cell? ⟨g, 2, none⟩ = some (.int .i64 z2) ∧ X.cell? ⟨g, 3, none⟩ = some (.int .i64 z3) ∧ X.cell? ⟨g, 4, none⟩ = some (.int .i64 z4) ∧ X.cell? ⟨g, 5, none⟩ = some (.int .i64 z5) ∧ X.cell? ⟨g, 6, none⟩ = some (.int .i64 z6))) (by kernel_rfl) (sK _ LG0.out) (fun hHeld => ?_)
          clear hHeld
          refine wpAnyH_take (i := 0) (v := ?_) rfl (by kernel_rfl) (by kernel_rfl) (by kernel_rfl) (fun _ _ _ h => h) (Or.inl ⟨by rfl, ?_⟩) (sK _ LG0.out) ?_
          rotate_left
          · (intro wS hSw; (try dsimp only at hSw); go_simp; try with_reducible rfl)
          simp only [Act.put, List.getElem_toArray, List.getElem_cons_zero, List.getElem_cons_succ, List.setIfInBounds_toArray, List.set_cons_zero, List.set_cons_succ]
          refine wpAnyH_take (i := 1) (v := ?_) rfl (by kernel_rfl) (by kernel_rfl) (by kernel_rfl) (fun _ _ _ h => h) (Or.inl ⟨by rfl, ?_⟩) (sK _ LG0.out) ?_
          rotate_left
          · (intro wS hSw; (try dsimp only at hSw); go_simp; try with_reducible rfl)
          simp only [Act.put, List.getElem_toArray, List.getElem_cons_zero, List.getElem_cons_succ, List.setIfInBounds_toArray, List.set_cons_zero, List.set_cons_succ]
          refine wpAnyH_take (i := 2) (v := ?_) rfl (by kernel_rfl) (by kernel_rfl) (by kernel_rfl) (fun _ _ _ h => h) (Or.inl ⟨by rfl, ?_⟩) (sK _ LG0.out) ?_
          rotate_left
          · (intro wS hSw; (try dsimp only at hSw); go_simp; try with_reducible rfl)
          simp only [Act.put, List.getElem_toArray, List.getElem_cons_zero, List.getElem_cons_succ, List.setIfInBounds_toArray, List.set_cons_zero, List.set_cons_succ]
          refine wpAnyH_take (i := 3) (v := ?_) rfl (by kernel_rfl) (by kernel_rfl) (by kernel_rfl) (fun _ _ _ h => h) (Or.inl ⟨by rfl, ?_⟩) (sK _ LG0.out) ?_
          rotate_left
          · (intro wS hSw; (try dsimp only at hSw); go_simp; try with_reducible rfl)
          simp only [Act.put, List.getElem_toArray, List.getElem_cons_zero, List.getElem_cons_succ, List.setIfInBounds_toArray, List.set_cons_zero, List.set_cons_succ]
          refine wpAnyH_take (i := 4) (v := ?_) rfl (by kernel_rfl) (by kernel_rfl) (by kernel_rfl) (fun _ _ _ h => h) (Or.inl ⟨by rfl, ?_⟩) (sK _ LG0.out) ?_
          rotate_left
          · (intro wS hSw; (try dsimp only at hSw); go_simp; try with_reducible rfl)
          simp only [Act.put, List.getElem_toArray, List.getElem_cons_zero, List.getElem_cons_succ, List.setIfInBounds_toArray, List.set_cons_zero, List.set_cons_succ]
          refine wpAnyH_take (i := 5) (v := ?_) rfl (by kernel_rfl) (by kernel_rfl) (by kernel_rfl) (fun _ _ _ h => h) (Or.inl ⟨by rfl, ?_⟩) (sK _ LG0.out) ?_
          rotate_left
          · (intro wS hSw; (try dsimp only at hSw); go_simp; try with_reducible rfl)
          simp only [Act.put, List.getElem_toArray, List.getElem_cons_zero, List.getElem_cons_succ, List.setIfInBounds_toArray, List.set_cons_zero, List.set_cons_succ]
          refine wpAnyH_ready (rs := [6, 8]) (by kernel_rfl) (by simp) ?_
          refine AllReadyH.cons rfl (fun K hK => ?_) (AllReadyH.cons rfl (fun K hK => ?_) AllReadyH.nil)
          skip
          · go_simp
            refine hK.out _ _ (sK _ LG0.out) (fun hHeld => ?_)
            clear hK K hHeld
            try simp only [Act.put, List.getElem_toArray, List.getElem_cons_zero, List.getElem_cons_succ, List.setIfInBounds_toArray, List.set_cons_zero, List.set_cons_succ]
            refine wpAnyH_take (i := 7) (v := ?_) rfl (by kernel_rfl) (by kernel_rfl) (by kernel_rfl) (fun _ _ _ h => h) (Or.inl ⟨by rfl, ?_⟩) (sK _ LG0.out) ?_
            rotate_left
            · (intro wS hSw; (try dsimp only at hSw); go_simp; try with_reducible rfl)
            simp only [Act.put, List.getElem_toArray, List.getElem_cons_zero, List.getElem_cons_succ, List.setIfInBounds_toArray, List.set_cons_zero, List.set_cons_succ]
            refine wpAnyH_ready (rs := [8]) (by kernel_rfl) (by simp) ?_
            refine AllReadyH.cons rfl (fun K hK => ?_) AllReadyH.nil
            go_simp
            refine hK.out _ _ (sK _ G1.out) (fun hHeld => ?_)
            clear hK K hHeld
            try simp only [Act.put, List.getElem_toArray, List.getElem_cons_zero, List.getElem_cons_succ, List.setIfInBounds_toArray, List.set_cons_zero, List.set_cons_succ]
            refine wpAnyH_take (i := 9) (v := ?_) rfl (by kernel_rfl) (by kernel_rfl) (by kernel_rfl) (fun _ _ _ h => h) (Or.inl ⟨by rfl, ?_⟩) (sK _ G1.out) ?_
            rotate_left
            · (intro wS hSw; (try dsimp only at hSw); go_simp; try with_reducible rfl)
            simp only [Act.put, List.getElem_toArray, List.getElem_cons_zero, List.getElem_cons_succ, List.setIfInBounds_toArray, List.set_cons_zero, List.set_cons_succ]
            refine wpAnyH_ready (rs := [10]) (by kernel_rfl) (by simp) ?_
            refine AllReadyH.cons rfl (fun K hK => ?_) AllReadyH.nil
            go_simp
            refine hK.out _ _ (sK _ GB.out) (fun hHeld => ?_)
            clear hK K hHeld
            try simp only [Act.put, List.getElem_toArray, List.getElem_cons_zero, List.getElem_cons_succ, List.setIfInBounds_toArray, List.set_cons_zero, List.set_cons_succ]
            refine wpAnyH_done (by kernel_rfl) ?_ _
            have OF : Hid (W4.ownsMap Try.prog 50 (plainElem (H := Unit) Try.prog 3) w.heap.size (2 * (k + 1)) (stD z (k + 1))) := Lib.hid (by rw [ES.out, e6]; exact own_le OW2.out (by omega))
            have EF := EB
            clear gl ge gl1 gs2
            go_wp2_with fail
            go_roundw
            case rel => exact ⟨k + 1, by omega, by go_num, OF.out, EF.out⟩
            case measure => simp [intOf]; omega
          · go_simp
            refine hK.out _ _ (sK _ G1.out) (fun hHeld => ?_)
            clear hK K hHeld
            try simp only [Act.put, List.getElem_toArray, List.getElem_cons_zero, List.getElem_cons_succ, List.setIfInBounds_toArray, List.set_cons_zero, List.set_cons_succ]
            refine wpAnyH_take (i := 9) (v := ?_) rfl (by kernel_rfl) (by kernel_rfl) (by kernel_rfl) (fun _ _ _ h => h) (Or.inl ⟨by rfl, ?_⟩) (sK _ G1.out) ?_
            rotate_left
            · (intro wS hSw; (try dsimp only at hSw); go_simp; try with_reducible rfl)
            simp only [Act.put, List.getElem_toArray, List.getElem_cons_zero, List.getElem_cons_succ, List.setIfInBounds_toArray, List.set_cons_zero, List.set_cons_succ]
            refine wpAnyH_ready (rs := [6]) (by kernel_rfl) (by simp) ?_
            refine AllReadyH.cons rfl (fun K hK => ?_) AllReadyH.nil
            go_simp
            refine hK.out _ _ (sK _ G1.out) (fun hHeld => ?_)
            clear hK K hHeld
            try simp only [Act.put, List.getElem_toArray, List.getElem_cons_zero, List.getElem_cons_succ, List.setIfInBounds_toArray, List.set_cons_zero, List.set_cons_succ]
            refine wpAnyH_take (i := 7) (v := ?_) rfl (by kernel_rfl) (by kernel_rfl) (by kernel_rfl) (fun _ _ _ h => h) (Or.inl ⟨by rfl, ?_⟩) (sK _ G1.out) ?_
            rotate_left
            · (intro wS hSw; (try dsimp only at hSw); go_simp; try with_reducible rfl)
            simp only [Act.put, List.getElem_toArray, List.getElem_cons_zero, List.getElem_cons_succ, List.setIfInBounds_toArray, List.set_cons_zero, List.set_cons_succ]
            refine wpAnyH_ready (rs := [10]) (by kernel_rfl) (by simp) ?_
            refine AllReadyH.cons rfl (fun K hK => ?_) AllReadyH.nil
            go_simp
            refine hK.out _ _ (sK _ GB.out) (fun hHeld => ?_)
            clear hK K hHeld
            try simp only [Act.put, List.getElem_toArray, List.getElem_cons_zero, List.getElem_cons_succ, List.setIfInBounds_toArray, List.set_cons_zero, List.set_cons_succ]
            refine wpAnyH_done (by kernel_rfl) ?_ _
            have OF : Hid (W4.ownsMap Try.prog 50 (plainElem (H := Unit) Try.prog 3) w.heap.size (2 * (k + 1)) (stD z (k + 1))) := Lib.hid (by rw [ES.out, e6]; exact own_le OW2.out (by omega))
            have EF := EB
            clear gl ge gl1 gs2
            go_wp2_with fail
            go_roundw
            case rel => exact ⟨k + 1, by omega, by go_num, OF.out, EF.out⟩
            case measure => simp [intOf]; omega
        · have e6 : D2 = D1 := by rw [O0.out, if_neg c6]
          have OF : Hid ((wr.alloc (.cells #[.int .i64 z0, .int .i64 z1, .int .i64 z2, .int .i64 z3, .int .i64 z4, .int .i64 z5, .int .i64 z6] 34)).ownsMap Try.prog 50 (plainElem (H := Unit) Try.prog 3) w.heap.size (2 * (k + 1)) (stD z (k + 1))) := Lib.hid (by rw [ES.out, e6]; exact own_le (OW.out.alloc _) (by omega))
          have EF := Lib.hid (EE.out.alloc EE.out.size (.cells #[.int .i64 z0, .int .i64 z1, .int .i64 z2, .int .i64 z3, .int .i64 z4, .int .i64 z5, .int .i64 z6] 34))
          have kA0 : wr.cell? ⟨b, o + k * 7, none⟩ = some (.int .i64 z0) := HA.out 0 _ rfl
          have kA1 : wr.cell? ⟨b, o + k * 7 + 1, none⟩ = some (.int .i64 z1) := HA.out 1 _ rfl
          have kA2 : wr.cell? ⟨b, o + k * 7 + 2, none⟩ = some (.int .i64 z2) := HA.out 2 _ rfl
          have kA3 : wr.cell? ⟨b, o + k * 7 + 3, none⟩ = some (.int .i64 z3) := HA.out 3 _ rfl
          have kA4 : wr.cell? ⟨b, o + k * 7 + 4, none⟩ = some (.int .i64 z4) := HA.out 4 _ rfl
          have kA5 : wr.cell? ⟨b, o + k * 7 + 5, none⟩ = some (.int .i64 z5) := HA.out 5 _ rfl
          have kA6 : wr.cell? ⟨b, o + k * 7 + 6, none⟩ = some (.int .i64 z6) := HA.out 6 _ rfl
          go_wp2_with fail
          go_roundw
          case rel => exact ⟨k + 1, by omega, by go_num, OF.out, EF.out⟩
          case measure => simp [intOf]; omega
    · obtain rfl : n = k := by omega
      go_wp2_with fail
      go_ret
      exact ⟨rfl, OW.out, EE.out⟩
end Go.Proofs.Ytodfjghgcphhhab
