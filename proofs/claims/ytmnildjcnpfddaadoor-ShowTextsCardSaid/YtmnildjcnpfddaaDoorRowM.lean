/- Rows of structs of m numbers that the call made, or appends to. -/
import Derived.Test.YtmnildjcnpfddaaDoorRows
import Derived.Test.YtmnildjcnpfddaaDoorRowKit
import Derived.Test.YtmnildjcnpfddaaDoorRowS
import Derived.Test.YtmnildjcnpfddaaDoorRowZ
import Derived.Test.YtmnildjcnpfddaaDoorSlicesEq
import Derived.Test.YtmnildjcnpfddaaDoorRowL
import Derived.WalkKit
import Derived.Lib.Hide
import Derived.Laws.CopyOwn
import Derived.Laws.CopyRow
import Derived.Laws.MakeOwn
import Derived.Laws.OwnMore
import Derived.Deep.AppendLies
namespace Go.Proofs.YtmnildjcnpfddaaDoor
open Go.RowKit
set_option linter.unusedSimpArgs false
set_option linter.unusedVariables false
/-- the numbers of structs of m numbers, one behind another -/
def flatM (m : Nat) (z : Nat → Nat → Int) (q : Nat) : Int := z (q / m) (q % m)
theorem flatM_at {m : Nat} {z : Nat → Nat → Int} {i j : Nat} (hj : j < m) : flatM m z (i * m + j) = z i j := by
  unfold flatM
  have h0 : 0 < m := by omega
  rw [Nat.add_comm, Nat.add_mul_div_right _ _ h0, Nat.add_mul_mod_self_right, Nat.div_eq_of_lt hj, Nat.mod_eq_of_lt hj, Nat.zero_add]
/-- the cells of n structs of m numbers -/
def rowM (m : Nat) (z : Nat → Nat → Int) (n : Nat) : List Value := (rowL (flatM m z) (n * m)).map (Value.int .i64)
theorem rowM_len (m : Nat) (z : Nat → Nat → Int) (n : Nat) : (rowM m z n).length = n * m := by unfold rowM; rw [List.length_map, rowL_len]
theorem rowM_zero (m : Nat) (z : Nat → Nat → Int) : rowM m z 0 = [] := by simp [rowM, rowL]
theorem rowL_add (a : Nat → Int) (n m : Nat) : rowL a (n + m) = rowL a n ++ (List.range m).map (fun j => a (n + j)) := by
  unfold rowL
  rw [List.range_add, List.map_append, List.map_map]
  rfl
theorem rowM_succ (m : Nat) (z : Nat → Nat → Int) (n : Nat) : rowM m z (n + 1) = rowM m z n ++ (List.range m).map (fun j => Value.int .i64 (z n j)) := by
  unfold rowM
  rw [Nat.succ_mul, rowL_add, List.map_append, List.map_map]
  congr 1
  refine List.map_congr_left fun j hj => ?_
  show Value.int .i64 (flatM m z (n * m + j)) = _
  rw [flatM_at (List.mem_range.1 hj)]
theorem rowM_congr {m n : Nat} {a b : Nat → Nat → Int} (h : ∀ i j, i < n → j < m → a i j = b i j) : rowM m a n = rowM m b n := by
  rcases Nat.eq_zero_or_pos m with h0 | h0
  · subst h0; simp [rowM, rowL]
  · unfold rowM
    congr 1
    refine rowL_congr fun q hq => ?_
    unfold flatM
    exact h _ _ ((Nat.div_lt_iff_lt_mul h0).2 hq) (Nat.mod_lt _ h0)
theorem rowM_one {m n : Nat} {a b : Nat → Nat → Int} {l : List Value} (h : ∀ i j, i < n → j < m → a i j = b i j) (hl : (List.range m).map (fun j => Value.int .i64 (b n j)) = l) : rowM m a n ++ l = rowM m b (n + 1) := by
  rw [rowM_succ, rowM_congr h, hl]
theorem rowM_get {m n i j : Nat} {z : Nat → Nat → Int} (hi : i < n) (hj : j < m) : (rowM m z n)[i * m + j]? = some (.int .i64 (z i j)) := by
  have h : i * m + j < n * m := by
    have := Nat.mul_le_mul_right m (show i + 1 ≤ n by omega)
    rw [Nat.succ_mul] at this; omega
  unfold rowM
  rw [List.getElem?_map, zat_get (by rw [rowL_len]; exact h), rowL_at _ h, flatM_at hj]; rfl
/-- one struct of the row that the call made, taken for another one -/
theorem rowM_set {m n i j : Nat} {z : Nat → Nat → Int} {u : Int} (hj : j < m) : (rowM m z n).set (i * m + j) (.int .i64 u) = rowM m (fun a b => if a = i ∧ b = j then u else z a b) n := by
  have h0 : 0 < m := by omega
  unfold rowM
  rw [← List.map_set, rowL_set]
  congr 1
  refine rowL_congr fun q hq => ?_
  unfold flatM
  by_cases h : q = i * m + j
  · have e1 : q / m = i := by rw [h, Nat.add_comm, Nat.add_mul_div_right _ _ h0, Nat.div_eq_of_lt hj, Nat.zero_add]
    have e2 : q % m = j := by rw [h, Nat.add_comm, Nat.add_mul_mod_self_right, Nat.mod_eq_of_lt hj]
    show (if q = i * m + j then u else _) = if q / m = i ∧ q % m = j then u else _
    rw [if_pos h, if_pos ⟨e1, e2⟩]
  · show (if q = i * m + j then u else _) = if q / m = i ∧ q % m = j then u else _
    rw [if_neg h, if_neg]
    rintro ⟨e1, e2⟩
    have := Nat.div_add_mod q m
    rw [e1, e2, Nat.mul_comm] at this
    omega
theorem ownM_at {w : World} {base : Nat} {e : TypeId} {m n g cap : Nat} {z : Nat → Nat → Int} (h : w.ownsRow base e m (.slice (some ⟨g, 0, none⟩) n cap) n (rowM m z n)) {i j : Nat} (hi : i < n) (hj : j < m) : w.cell? ⟨g, i * m + j, none⟩ = some (.int .i64 (z i j)) := by
  have hlt : i * m + j < n * m := by
    have := Nat.mul_le_mul_right m (show i + 1 ≤ n by omega)
    rw [Nat.succ_mul] at this; omega
  rw [h.cellAt _ hlt]; exact rowM_get hi hj
/-- a row that the call made, as a row that is read -/
theorem ownM_rd {w : World} {base : Nat} {e : TypeId} {m n : Nat} {v : Value} {z : Nat → Nat → Int} (h : w.ownsRow base e m v n (rowM m z n)) (hwf : ∀ i j, i < n → j < m → (Lit.int .i64 (z i j)).wf = true) : ∃ A c, v = .slice A n c ∧ n ≤ c ∧ c ≤ maxLen ∧ RdZ w m A n z := by
  rcases h.2 with ⟨rfl, hn⟩ | ⟨g, cap, cur, rfl, hg, hh, hnc, hcm, hcs, htake⟩
  · exact ⟨none, 0, by rw [hn], by omega, by unfold maxLen; omega, fun i hi => absurd hi (by omega)⟩
  · refine ⟨some ⟨g, 0, none⟩, cap, rfl, hnc, hcm, rdZ_mk (fun i j hi hj => ⟨?_, hwf i j hi hj⟩) (h.lt g rfl).2⟩
    have := ownM_at h hi hj
    rwa [Nat.zero_add]
theorem ownM_put {w : World} {base : Nat} {e : TypeId} {m n g cap i j : Nat} {z : Nat → Nat → Int} (h : w.ownsRow base e m (.slice (some ⟨g, 0, none⟩) n cap) n (rowM m z n)) (hj : j < m) (u : Int) :
    (w.setCell ⟨g, i * m + j, none⟩ (.int .i64 u)).ownsRow base e m (.slice (some ⟨g, 0, none⟩) n cap) n (rowM m (fun a b => if a = i ∧ b = j then u else z a b) n) := by
  have := (h.stored (i * m + j) (.int .i64 u)).1
  rw [rowM_set hj] at this
  exact this
theorem ownM_below {w w' : World} {base : Nat} {e : TypeId} {size : Nat} {v : Value} {n : Nat} {xs : List Value} (h : w.ownsRow base e size v n xs) (hb : Below w.heap.size w w') : w'.ownsRow base e size v n xs :=
  h.kept (row := none) ⟨hb.os, hb.tape, hb.output, hb.size, fun i hi _ => hb.block i hi⟩ (by cases hv : v.ownBlock <;> simp)
theorem ownM_slice {w : World} {base : Nat} {e : TypeId} {m : Nat} {v : Value} {n : Nat} {xs : List Value} (h : w.ownsRow base e m v n xs) : ∃ (g : Option Addr) (cap : Nat), v = .slice g n cap := by
  rcases h.2 with ⟨rfl, h0⟩ | ⟨g, cap, _, rfl, _⟩
  · exact ⟨none, 0, by rw [h0]⟩
  · exact ⟨_, cap, rfl⟩
theorem ownM_head {w : World} {base : Nat} {e : TypeId} {m : Nat} {v : Value} {n : Nat} {xs : List Value} (h : w.ownsRow base e m v n xs) (hn : 0 < n) : ∃ g cap, v = .slice (some ⟨g, 0, none⟩) n cap ∧ base ≤ g ∧ n ≤ cap := by
  rcases h.2 with ⟨_, h0⟩ | ⟨g, cap, cur, rfl, hg, hh, hnc, _⟩
  · omega
  · exact ⟨g, cap, rfl, hg, hnc⟩
/-- the cells of an element that 'append' lays into a block of its own -/
theorem newsM {w : World} {B : Nat} {cs : Array Value} {t : TypeId} (h : w.heap[B]? = some (.cells cs t)) : ∀ j u, cs.toList[j]? = some u → w.cell? ((⟨B, 0, none⟩ : Addr).add j) = some u := World.news_of_block (fr := (0, 0)) h
theorem newsM_new {w : World} {cs : Array Value} {t : TypeId} : ∀ j u, cs.toList[j]? = some u → (w.alloc (.cells cs t)).cell? ((⟨w.heap.size, 0, none⟩ : Addr).add j) = some u := World.news_of_block (fr := (0, 0)) (heap_alloc_new w _)
theorem newsM_new2 {w : World} {o : Obj} {cs : Array Value} {t : TypeId} : ∀ j u, cs.toList[j]? = some u → ((w.alloc o).alloc (.cells cs t)).cell? ((⟨w.heap.size + 1, 0, none⟩ : Addr).add j) = some u := by
  have h := newsM_new (w := w.alloc o) (cs := cs) (t := t)
  rw [World.size_alloc] at h
  exact h
theorem oneM {m : Nat} {f : Nat → Int} : ∀ u ∈ (List.range m).map (fun j => Value.int .i64 (f j)), u.oneCell' = true := by
  intro u hu
  obtain ⟨j, _, rfl⟩ := List.mem_map.1 hu
  rfl
theorem madeM {m n : Nat} {zc : Array Value} (hs : zc.size = m) (hz : ∀ j, j < m → zc[j]! = .int .i64 0) : (madeCells zc (n * m)).toList = rowM m (fun _ _ => 0) n := by
  subst hs
  apply List.ext_getElem
  · rw [rowM_len]; simp [madeCells]
  · intro q h1 h2
    have hq : q < n * zc.size := by rw [rowM_len] at h2; exact h2
    have h0 : 0 < zc.size := by
      rcases Nat.eq_zero_or_pos zc.size with h | h
      · rw [h] at hq; omega
      · exact h
    have := hz (q % zc.size) (Nat.mod_lt _ h0)
    simp [madeCells, rowM, rowL, flatM, this]
section
variable {P : Program}
/-- copy of all elements of a row into a row that the call made, as long -/
theorem run_copyM {w w0 : World} {dT sT ty elem e : TypeId} {base g cap n size sCap B : Nat} {xs cs : List Value} {a : Addr} {i : TypeInfo} (hu : P.underlying dT = some (.slice elem)) (hi : P.info? elem = some i) (hz : i.size = size)
    (h : w.ownsRow base e size (.slice (some ⟨g, 0, none⟩) n cap) n xs) (hl : cs.length = n * size) (hsrc : ∀ j v, cs[j]? = some v → w.cell? (a.add j) = some v) (h1 : ∀ v ∈ cs, v.oneCell' = true) (hb : Below B w0 w) (hB : B ≤ base) :
    ∃ w', (Builtin.copy_ #[dT, sT] ty #[.slice (some ⟨g, 0, none⟩) n cap, .slice (some a) n sCap]).run P w = .ok (goInt n) w' ∧ w'.ownsRow base e size (.slice (some ⟨g, 0, none⟩) n cap) n cs ∧ Below B w0 w' := by
  rcases h.2 with ⟨h0, _⟩ | ⟨g', cap', cur, hv, hg, hh, hnc, hcm, hcs, htake⟩
  · simp at h0
  · simp at hv
    obtain ⟨rfl, rfl⟩ := hv
    have hll := run_loadCells_list (P := P) w a cs hsrc
    have hle : cs.length ≤ cur.size := by rw [hl, hcs]; exact Nat.mul_le_mul_right _ hnc
    have hst := run_storeCells_at P g 0 e cs 0 cur w hh (by simpa using hle) h1
    have hmin : Nat.min n n = n := Nat.min_self n
    refine ⟨_, ?_, ?_, below_setRow hb (Nat.le_trans hB hg) (cur.toList.take 0 ++ cs ++ cur.toList.drop (0 + cs.length)).toArray⟩
    · rw [hl] at hll
      simp [Builtin.copy_, run_underlying hu, Builtin.lenOf, Builtin.firstCells, sizeOf, typeInfo, hi, hz, hll] 
      simp at hst
      simp [hst]
    · refine ⟨by omega, .inr ⟨g, cap, (cur.toList.take 0 ++ cs ++ cur.toList.drop (0 + cs.length)).toArray, rfl, hg, setRow_heap w g cur _ e _ hh, hnc, hcm, ?_, ?_⟩⟩
      · simp; omega
      · simp [hl]
theorem wpList_copyM {w w0 : World} {ops : Array Oper} {rest : List Oper} {o : Oper} {act : Act} {Q : Exit → Act → World → Prop} (hgd : o.guard = none) (d s : Operand) (dT sT : TypeId)
    (ho : o.op = .call { callee := .builtin .copy, args := #[d, s], argTypes := #[dT, sT] }) (elem e : TypeId) (i : TypeInfo) (size : Nat) (hu : P.underlying dT = some (.slice elem)) (hi : P.info? elem = some i) (hz : i.size = size)
    (base g cap n sCap B : Nat) (xs cs : List Value) (a : Addr) (hd : act.eval d = .slice (some ⟨g, 0, none⟩) n cap) (hs : act.eval s = .slice (some a) n sCap)
    (h : w.ownsRow base e size (.slice (some ⟨g, 0, none⟩) n cap) n xs) (hl : cs.length = n * size) (hsrc : ∀ j v, cs[j]? = some v → w.cell? (a.add j) = some v) (h1 : ∀ v ∈ cs, v.oneCell' = true) (hb : Below B w0 w) (hB : B ≤ base)
    (k : ∀ w', w'.ownsRow base e size (.slice (some ⟨g, 0, none⟩) n cap) n cs → Below B w0 w' → wpList P ops Q rest (act.put o.dst (goInt n)) w') : wpList P ops Q (o :: rest) act w := by
  refine wpList_plain hgd fun K hK => ?_
  obtain ⟨w', hr, h2, h3⟩ := run_copyM (P := P) (ty := o.type) (sT := sT) (sCap := sCap) hu hi hz h hl hsrc h1 hb hB
  unfold Oper.wp
  simp [execOp, ho, resolve, invoke, builtin, hd, hs, hr, Result.andThen]
  exact hK _ _ (k w' h2 h3)
/-- copy where nothing is to be copied -/
theorem run_copy0 {w : World} {dT sT ty elem : TypeId} {i : TypeInfo} {d A : Option Addr} {dCap sCap : Nat} (hu : P.underlying dT = some (.slice elem)) (hi : P.info? elem = some i) :
    (Builtin.copy_ #[dT, sT] ty #[.slice d 0 dCap, .slice A 0 sCap]).run P w = .ok (goInt 0) w := by
  have hl : ∀ (x : Addr), (loadCells x 0).run P w = .ok #[] w := fun x => by simpa using run_loadCells_list (P := P) w x [] (by simp)
  cases d <;> cases A <;> simp [Builtin.copy_, run_underlying hu, Builtin.lenOf, Builtin.firstCells, sizeOf, typeInfo, hi, storeCells, hl]
theorem wpList_copy0 {w : World} {ops : Array Oper} {rest : List Oper} {o : Oper} {act : Act} {Q : Exit → Act → World → Prop} (hgd : o.guard = none) (d s : Operand) (dT sT : TypeId)
    (ho : o.op = .call { callee := .builtin .copy, args := #[d, s], argTypes := #[dT, sT] }) (elem : TypeId) (i : TypeInfo) (hu : P.underlying dT = some (.slice elem)) (hi : P.info? elem = some i)
    (D A : Option Addr) (dCap sCap : Nat) (hd : act.eval d = .slice D 0 dCap) (hs : act.eval s = .slice A 0 sCap)
    (k : wpList P ops Q rest (act.put o.dst (goInt 0)) w) : wpList P ops Q (o :: rest) act w := by
  refine wpList_plain hgd fun K hK => ?_
  have hr := run_copy0 (P := P) (w := w) (ty := o.type) (sT := sT) (d := D) (A := A) (dCap := dCap) (sCap := sCap) hu hi
  unfold Oper.wp
  simp [execOp, ho, resolve, invoke, builtin, hd, hs, hr, Result.andThen]
  exact hK _ _ k
end
end Go.Proofs.YtmnildjcnpfddaaDoor
