/- strings.Builder: copyCheck and WriteString at a builder of the call's own. -/
import Derived.Test.YtkonghjmipclmaaDoorRows
import Derived.Test.YtkonghjmipclmaaDoorRowKit
import Derived.Test.YtkonghjmipclmaaDoorShelf
import Derived.Test.YtkonghjmipclmaaDoorBlocks
import Derived.WalkKit
import Derived.IntWalk
import Derived.Lib.Hide
import Derived.Lib.Builder
import Derived.WalkSpells
import Derived.WalkLawsBesides
import Derived.Laws.IdiomStrings
import Derived.Laws.OwnMore
import Derived.OwnWalk
import Derived.Deep.QuietTactic
import Derived.BigQuiet
import Derived.BigRegion
namespace Go.Proofs.YtkonghjmipclmaaDoor
open Go.RowKit
set_option linter.unusedSimpArgs false
set_option linter.unusedVariables false
theorem bdInfo : (Tryd.prog.info? 44).map (·.size) = some 2 := by kernel_rfl
theorem b8Info : (Tryd.prog.info? 5).map (fun i => (i.zero, i.size, i.bytes)) = some (some (.int .u8 0), 1, 1) := by kernel_rfl
set_option maxRecDepth 100000 in
set_option maxHeartbeats 4000000 in
theorem cc_new (b : Nat) (w : World) (h0 : w.cell? ⟨b, 0, none⟩ = some (.pointer none)) (hf : w.frozen? ⟨b, 0, none⟩ = false) (hs : w.shape? b = some (44, 2)) :
    Calls Tryd.prog 35 #[.pointer (some ⟨b, 0, none⟩)] w fun e w' => e = .returned (.tuple #[]) ∧ w' = w.setCell ⟨b, 0, none⟩ (.pointer (some ⟨b, 0, none⟩)) := by
  obtain ⟨j, hj, hj2⟩ := Option.map_eq_some_iff.1 bdInfo
  have r1 := Lib.run_to_unsafe (P := Tryd.prog) (src := 42) (dst := 85) w ⟨b, 0, none⟩ Tryd.underlying42 Tryd.underlying85 hj (by rw [hj2]; decide) hs (Nat.zero_lt_succ 1)
  have r2 := Lib.run_from_unsafe (P := Tryd.prog) (src := 85) (dst := 42) w ⟨b, 0, none⟩ Tryd.underlying85 Tryd.underlying42 hj hs (by kernel_rfl)
  go_enter Tryd.func35, Tryd.ntmps35
  go_wp2_with fail
  rw [run_callFunc_extern Tryd.func50 (by kernel_rfl) (by kernel_rfl) (by kernel_rfl) (e := Extern.AbiNoEscape.same) (by kernel_rfl), Lib.run_noEscape]
  simp only [Result.andThen]
  rw [Oper.upon_value]
  go_wp2_with fail
  go_end0
  exact ⟨rfl, rfl⟩
set_option maxRecDepth 100000 in
set_option maxHeartbeats 4000000 in
theorem cc_used (b : Nat) (w : World) (h0 : w.cell? ⟨b, 0, none⟩ = some (.pointer (some ⟨b, 0, none⟩))) :
    Calls Tryd.prog 35 #[.pointer (some ⟨b, 0, none⟩)] w fun e w' => e = .returned (.tuple #[]) ∧ w' = w := by
  obtain ⟨j, hj, hj2⟩ := Option.map_eq_some_iff.1 bdInfo
  go_enter Tryd.func35, Tryd.ntmps35
  go_wp2_with fail
  rw [Lib.run_neq_ptr_same w _ Tryd.underlying42 hj]
  go_wp2_with fail
  go_end0
  exact ⟨rfl, rfl⟩
/-- a builder of the call's own that holds these bytes -/
def Bu (w : World) (B b : Nat) (L : List UInt8) : Prop := Lib.IsBuilder 44 5 B b (Lib.byteCells L) w
def Bu1 (w : World) (B b : Nat) (L : List UInt8) : Prop := Lib.BuilderAt 44 5 B b (.pointer (some ⟨b, 0, none⟩)) (Lib.byteCells L) w
theorem bat_next {w w' : World} {B b : Nat} {p : Value} {bs : List Value} (h : Lib.BuilderAt 44 5 B b p bs w) (hb : Below w.heap.size w w') : Lib.BuilderAt 44 5 B b p bs w' := by
  obtain ⟨h1, v, h2, h3, h4⟩ := h
  have hlt : b < w.heap.size := by
    rcases Nat.lt_or_ge b w.heap.size with q | q
    · exact q
    · rw [Array.getElem?_eq_none q] at h2; cases h2
  exact ⟨h1, v, (hb.block b hlt).trans h2, h3.kept (row := none) ⟨hb.os, hb.tape, hb.output, hb.size, fun i hi _ => hb.block i hi⟩ (by cases hv : v.ownBlock <;> simp), h4⟩
theorem Bu.next {w w' : World} {B b : Nat} {L : List UInt8} (h : Bu w B b L) (hb : Below w.heap.size w w') : Bu w' B b L := h.elim (fun q => Or.inl (bat_next q hb)) (fun q => Or.inr (bat_next q hb))
theorem Bu.of {w : World} {B b : Nat} {L : List UInt8} (h : Bu1 w B b L) : Bu w B b L := Or.inr h
theorem Bu.new (w : World) {B : Nat} (hB : B ≤ w.heap.size) : Bu (w.alloc (.cells #[.pointer none, .slice none 0 0] 44)) B w.heap.size [] := Or.inl ⟨hB, .slice none 0 0, heap_alloc_last w _, World.ownsRow_nil .., by simp [Value.ownBlock]⟩
theorem strC (s : ByteArray) : Lib.strCells s = Lib.byteCells s.data.toList := rfl
theorem own_sl {w : World} {base : Nat} {e : TypeId} {size n : Nat} {v : Value} {xs : List Value} (h : w.ownsRow base e size v n xs) : ∃ ao n' cap, v = .slice ao n' cap := by
  rcases h.2 with ⟨hv, _⟩ | ⟨g, cap, cur, hv, _⟩
  · exact ⟨_, _, _, hv⟩
  · exact ⟨_, _, _, hv⟩
set_option maxRecDepth 100000 in
set_option maxHeartbeats 4000000 in
theorem ws_at {w0 : World} (B b : Nat) (bs : List Value) (s : ByteArray) (w : World) (h : Lib.BuilderAt 44 5 B b (.pointer (some ⟨b, 0, none⟩)) bs w) (hl : bs.length + s.size ≤ 1000000000) (hB : B ≤ w.heap.size)
    (K : Calls Tryd.prog 35 #[.pointer (some ⟨b, 0, none⟩)] w0 fun e w' => e = .returned (.tuple #[]) ∧ w' = w) (hb0 : Below B w0 w) :
    Calls Tryd.prog 20 #[.pointer (some ⟨b, 0, none⟩), .string s] w0 fun e w' => e = .returned (.tuple #[.int .i64 s.size, .nilIface]) ∧ Lib.BuilderAt 44 5 B b (.pointer (some ⟨b, 0, none⟩)) (bs ++ Lib.strCells s) w' ∧ Below B w0 w' := by
  obtain ⟨i0, hi, hz0, hz1, hz2⟩ := info_parts b8Info
  obtain ⟨hBb, v, hbk, hown, hne⟩ := h
  have hlt : b < w.heap.size := by
    rcases Nat.lt_or_ge b w.heap.size with q | q
    · exact q
    · rw [Array.getElem?_eq_none q] at hbk; cases hbk
  have c1 : w.cell? ⟨b, 1, none⟩ = some v := blk_cell hbk 1
  have KC := Lib.hid K
  clear K
  go_enter Tryd.func20, Tryd.ntmps20
  go_wp2_with fail
  refine KC.out.mono ?_
  rintro e w1 ⟨rfl, rfl⟩
  go_wp2_with (at_builtin; refine Lib.wpList_append_own_string _ rfl _ _ 31 9 rfl B 5 i0 Tryd.underlying31 Tryd.underlying9 hi hz0 hz1 hz2 _ _ _ rfl hown _ rfl (by unfold maxLen; omega) (by omega) hB ?_; intro v' w2 hown' hgrow _; have hb2 : w2.heap[b]? = some (.cells #[.pointer (some ⟨b, 0, none⟩), v] 44 (0, 0)) := (hgrow.block b hlt (fun e => hne e.symm)).trans hbk; have d1 : w2.cell? ⟨b, 1, none⟩ = some v := blk_cell hb2 1; have f1 : w2.frozen? ⟨b, 1, none⟩ = false := Lib.frozen_of_heap hb2 1; obtain ⟨ao, n', cap, rfl⟩ := own_sl hown')
  go_ret2
  refine ⟨rfl, ?_, ?_⟩
  · exact Lib.BuilderAt.put (T := 44) (e := 5) hBb hb2 (bs' := bs ++ Lib.strCells s) (by simpa [Lib.strCells_length] using hown') (by decide)
  · exact (hb0.grown hgrow hB (fun k hk => (hown.lt k hk).1)).setCell (p := ⟨b, 1, none⟩) hBb _
/-- WriteString -/
theorem ws_any (B b : Nat) (L : List UInt8) (s : ByteArray) (w : World) (h : Bu w B b L) (hl : L.length + s.size ≤ 1000000000) (hB : B ≤ w.heap.size) :
    Calls Tryd.prog 20 #[.pointer (some ⟨b, 0, none⟩), .string s] w fun e w' => e = .returned (.tuple #[.int .i64 s.size, .nilIface]) ∧ Bu w' B b (L ++ s.data.toList) ∧ Below B w w' := by
  have hlen : (Lib.byteCells L).length = L.length := by unfold Lib.byteCells; simp
  have fin : ∀ w', Lib.BuilderAt 44 5 B b (.pointer (some ⟨b, 0, none⟩)) (Lib.byteCells L ++ Lib.strCells s) w' → Bu w' B b (L ++ s.data.toList) := fun w' h => Or.inr (by
    have e : Lib.byteCells (L ++ s.data.toList) = Lib.byteCells L ++ Lib.strCells s := by unfold Lib.byteCells; rw [List.map_append]; rfl
    rw [e]; exact h)
  rcases h with h | h
  · exact (ws_at B b _ s _ (h.used _) (by omega) (Nat.le_trans hB ((Below.refl 0 w).setCell (p := ⟨b, 0, none⟩) (Nat.zero_le _) _).size) (cc_new b w h.cell0 h.frozen0 h.shape) ((Below.refl B w).setCell (p := ⟨b, 0, none⟩) h.1 _)).mono fun e w' ⟨h1, h2, h3⟩ => ⟨h1, fin w' h2, h3⟩
  · exact (ws_at B b _ s w h (by omega) hB (cc_used b w h.cell0) (Below.refl B w)).mono fun e w' ⟨h1, h2, h3⟩ => ⟨h1, fin w' h2, h3⟩
/-- String -/
theorem str_any (B b : Nat) (L : List UInt8) (w : World) (h : Bu w B b L) (hB : B ≤ w.heap.size) :
    Calls Tryd.prog 21 #[.pointer (some ⟨b, 0, none⟩)] w fun e w' => e = .returned (.string ⟨L.toArray⟩) ∧ Below B w w' := (Tryd.Builder_String_any B b L w h hB).mono fun e w' h => ⟨h.1, h.2⟩
end Go.Proofs.YtkonghjmipclmaaDoor
