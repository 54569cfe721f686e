/- slices.AppendSeq, Collect, Sorted over slices.Values of a row of numbers. -/
import Derived.Test.YtcofafiacpecnaaRows
import Derived.Test.YtcofafiacpecnaaRowKit
import Derived.Test.YtcofafiacpecnaaSlicesEq
import Derived.Test.YtcofafiacpecnaaRowL
import Derived.Test.YtcofafiacpecnaaShelf
import Derived.Test.YtcofafiacpecnaaSeqA
import Derived.Shelf.SlIterI.Collect
import Derived.Lib.SlKeysI
import Derived.Sort.OwnSorted
import Derived.WalkKit
import Derived.Lib.Hide
import Derived.WalkSpells
import Derived.WalkLawsBesides
namespace Go.Proofs.Ytcofafiacpecnaa
open Go.RowKit Go.Maps Go.Sort Go.Shelf
set_option linter.unusedSimpArgs false
set_option linter.unusedVariables false
theorem eValues : ∀ args w, (callFunc 114 args).run Try.prog w = .ok (.enter 114 args) w := enters_of Try.func114 (by kernel_rfl) rfl
set_option maxRecDepth 100000 in
set_option maxHeartbeats 2000000 in
theorem appendSeq_vals (A : Option Addr) (m Bm b off n c : Nat) (zs : List Int) (w : World) (hm : w.cell? ⟨Bm, 0, none⟩ = some (.slice A n c)) (hA : 0 < n → A = some ⟨b, off, none⟩) (hc : ∀ i, i < n → w.cell? ⟨b, off + i, none⟩ = some (.int .i64 (zat zs i))) (hn : zs.length = n) (hn1 : n ≤ 1000000) :
    CallsIn Fence.wide (m + 2) Try.prog 124 #[.slice none 0 0, .func (.func 114) #[] #[.pointer (some ⟨Bm, 0, none⟩)]] w fun e w' => ∃ v, e = .returned v ∧ w'.ownsRow w.heap.size 3 1 v zs.length (zs.map encZ) ∧ (v = .slice none 0 0 ↔ zs = []) ∧ Below w.heap.size w w' := by
  have hne : (23 : TypeId) ≠ 3 := by decide
  have VI := fun l J h1 h2 W h3 => values_it A m l Bm b off n c zs w J h1 h2 W h3 hm hA hc hn (by unfold maxLen; omega)
  have HV := Lib.hid VI
  clear VI hm hc hA
  obtain ⟨sv, hsv⟩ : ∃ sv : Value, sv = .func (.func 114) #[] #[.pointer (some ⟨Bm, 0, none⟩)] := ⟨_, rfl⟩
  refine callsIn_of_wp_marks Try.func124 rfl trivial ?_ rfl
  simp only [Try.ntmps124, List.size_toArray, List.length_cons, List.length_nil, Nat.reduceAdd, Nat.reduceSub, Array.replicate_succ, Array.replicate_zero, List.push_toArray, List.append_toArray, List.nil_append, List.cons_append]
  gi_wp2
  refine wpIn_rangeFunc ?_
  intro fn hfn
  rw [show Fence.wide.round = none from rfl]
  obtain ⟨W0, hW0⟩ : ∃ W0, w.alloc (.cells #[.slice none 0 0] 23) = W0 := ⟨_, rfl⟩
  have s0 : W0.heap.size = w.heap.size + 1 := by rw [← hW0]; simp
  have v0 : W0.heap[w.heap.size]? = some (.cells #[.slice none 0 0] 23 (0, 0)) := by rw [← hW0]; exact World.alloc_heap_new w _
  have b0 : Below w.heap.size w W0 := by rw [← hW0]; exact (Below.refl _ w).alloc (Nat.le_refl _) _
  rw [hW0]
  obtain ⟨W1, hW1⟩ : ∃ W1, (W0.alloc (.deferred (some []))).alloc (.loop (AnyZI.apRec seqR fn sv w.heap.size W0.heap.size .ready none)) = W1 := ⟨_, rfl⟩
  have old : ∀ k, k < W0.heap.size → W1.heap[k]? = W0.heap[k]? := fun k hk => by
    rw [← hW1]; exact (Below.heap_alloc _ _ k (by simp; omega)).trans (Below.heap_alloc _ _ k hk)
  have b1 : Below w.heap.size w W1 := by rw [← hW1]; exact (b0.alloc b0.size _).alloc (by have := b0.size; simp; omega) _
  have at1 : AnyZI.ApAt seqR w fn sv w.heap.size (W0.heap.size + 1) W0.heap.size [] W1 :=
    ⟨⟨_, (old w.heap.size (by omega)).trans v0, ⟨rfl, .inl ⟨rfl, rfl⟩⟩, by simp⟩,
     by rw [← hW1]; have := World.alloc_heap_new (W0.alloc (.deferred (some []))) (.loop (AnyZI.apRec seqR fn sv w.heap.size W0.heap.size .ready none)); rwa [World.size_alloc] at this,
     by rw [← hW1]; exact (Below.heap_alloc _ _ _ (by simp)).trans (World.alloc_heap_new W0 _), b1⟩
  subst hsv
  refine ⟨W0.heap.size + 1, [{ target := .collected W0.heap.size, args := #[] }], W1, { target := .fn (.func 114) #[.pointer (some ⟨Bm, 0, none⟩)], args := #[.func (.yield (W0.heap.size + 1)) #[] #[]] }, W1, 114,
    #[.func (.yield (W0.heap.size + 1)) #[] #[], .pointer (some ⟨Bm, 0, none⟩)], W1, ?_, ?_, ?_, ?_, fun _ => by omega, ?_⟩
  · rw [← hW1]; exact run_enterLoop_outer _ _ _ _ _
  · simp [resolve, go_sem]
  · intro f' hf'; trivial
  · simp [invoke, go_sem, eValues]
  · refine (HV.out (W0.heap.size + 1) _ (fun _ _ h => AnyZI.ApAt.below h)
      (fun pre x W hJ hl => AnyZI.apYield seqL Fence.wide m w fn hfn _ w.heap.size (W0.heap.size + 1) W0.heap.size (by omega) (by omega) (by omega) (Nat.le_refl _) (by omega) n (by unfold maxLen; omega) (by omega) pre x W hJ hl) W1 at1).mono ?_
    rintro e W2 ⟨⟨v0, rfl⟩, h2⟩
    obtain ⟨v, hv, hrow, hnil⟩ := h2.box
    have hend := run_endLoop (P := Try.prog) h2.L (by simp [AnyZI.apRec])
    obtain ⟨W3, hW3⟩ : ∃ W3, W2.putObj (W0.heap.size + 1) (.loop { AnyZI.apRec seqR fn (.func (.func 114) #[] #[.pointer (some ⟨Bm, 0, none⟩)]) w.heap.size W0.heap.size .ready none with state := .exhausted }) = W3 := ⟨_, rfl⟩
    rw [hW3] at hend
    have g3 : W2.grownBy W3 (some (W0.heap.size + 1)) := by rw [← hW3]; exact grownBy_putObj_a _ _ _
    have v3 : W3.heap[w.heap.size]? = some (.cells #[v] 23 (0, 0)) := by rw [← hW3]; exact (World.putObj_heap_other (by omega)).trans hv
    have k3 : W3.heap[W0.heap.size]? = some (.deferred (some [])) := by rw [← hW3]; exact (World.putObj_heap_other (by omega)).trans h2.K
    have r3 := hrow.kept g3 (ownsRow_ne_a hrow h2.L (fun cur e => by cases e))
    have b3 : Below w.heap.size w W3 := h2.below.grown g3 h2.below.size (fun k e => by cases e; omega)
    obtain ⟨c3, f3⟩ := cell_of_box_a v3
    clear hW3
    refine ⟨none, W3, hend, ?_⟩
    gi_wp2
    rw [← s0]
    refine ⟨by simp, .inl ⟨_, _, rfl, run_takeDeferred k3, ?_⟩⟩
    exact ⟨_, results_tmp rfl _ _ _, v, rfl, r3.kept (grownBy_putObj_a _ _ _) (ownsRow_ne_a r3 k3 (fun cur e => by cases e)), hnil, b3.grown (grownBy_putObj_a _ _ _) b3.size (fun k e => by cases e; omega)⟩
set_option maxHeartbeats 1000000 in
theorem collect_vals (A : Option Addr) (m Bm b off n c : Nat) (zs : List Int) (w : World) (hm : w.cell? ⟨Bm, 0, none⟩ = some (.slice A n c)) (hA : 0 < n → A = some ⟨b, off, none⟩) (hc : ∀ i, i < n → w.cell? ⟨b, off + i, none⟩ = some (.int .i64 (zat zs i))) (hn : zs.length = n) (hn1 : n ≤ 1000000) :
    Calls Try.prog 112 #[.func (.func 114) #[] #[.pointer (some ⟨Bm, 0, none⟩)]] w fun e w' => ∃ v, e = .returned v ∧ w'.ownsRow w.heap.size 3 1 v zs.length (zs.map encZ) ∧ (v = .slice none 0 0 ↔ zs = []) ∧ Below w.heap.size w w' := by
  have K := Lib.hid ((callsIn_wide (n := m + 2)).1 (appendSeq_vals A m Bm b off n c zs w hm hA hc hn hn1))
  clear hm hc hn hA
  go_enter Try.func112, Try.ntmps112
  go_wp2_with fail
  refine K.out.mono ?_
  rintro e w1 ⟨v, rfl, hr, hv, hb⟩
  have HR := Lib.hid hr
  have HV := Lib.hid hv
  clear hr hv
  go_wp2_with fail
  go_ret
  exact ⟨v, rfl, HR.out, HV.out, hb⟩
/-- the numbers, rising -/
def srt (zs : List Int) : List Int := zs.mergeSort fun x y => decide (x ≤ y)
theorem srt_len (zs : List Int) : (srt zs).length = zs.length := List.length_mergeSort zs
def SortedR (zs : List Int) (w : World) (e : Ending) (w' : World) : Prop := ∃ A c, e = .returned (.slice A zs.length c) ∧ RdI w' .i64 A (srt zs) ∧ Below w.heap.size w w'
theorem srt_mem {zs : List Int} {x : Int} : x ∈ srt zs ↔ x ∈ zs := List.mem_mergeSort
theorem zat_mem {zs : List Int} {i : Nat} (h : i < zs.length) : zat zs i ∈ zs := by
  unfold zat; rw [List.getD_eq_getElem?_getD, List.getElem?_eq_getElem h]; exact List.getElem_mem h
theorem mem_zat {zs : List Int} {x : Int} (h : x ∈ zs) : ∃ i, i < zs.length ∧ zat zs i = x := by
  obtain ⟨i, hi, e⟩ := List.getElem_of_mem h
  exact ⟨i, hi, by unfold zat; rw [List.getD_eq_getElem?_getD, List.getElem?_eq_getElem hi]; exact e⟩
theorem srt_wf {zs : List Int} (h : ∀ i, i < zs.length → (Lit.int .i64 (zat zs i)).wf = true) : ∀ i, i < (srt zs).length → (Lit.int .i64 (zat (srt zs) i)).wf = true := by
  intro i hi
  obtain ⟨j, hj, e⟩ := mem_zat (srt_mem.1 (zat_mem hi))
  rw [← e]; exact h j hj
set_option maxRecDepth 100000 in
set_option maxHeartbeats 1000000 in
theorem sorted_vals (A : Option Addr) (Bm b off n c : Nat) (zs : List Int) (w : World) (hm : w.cell? ⟨Bm, 0, none⟩ = some (.slice A n c)) (hA : 0 < n → A = some ⟨b, off, none⟩) (hc : ∀ i, i < n → w.cell? ⟨b, off + i, none⟩ = some (.int .i64 (zat zs i))) (hn : zs.length = n) (hn1 : n ≤ 1000000) (hwf : ∀ i, i < zs.length → (Lit.int .i64 (zat zs i)).wf = true) :
    Calls Try.prog 94 #[.func (.func 114) #[] #[.pointer (some ⟨Bm, 0, none⟩)]] w (SortedR zs w) := by
  have K := Lib.hid (collect_vals A 0 Bm b off n c zs w hm hA hc hn hn1)
  have HW := Lib.hid (srt_wf hwf)
  have hl1 : zs.length ≤ 1000000 := by omega
  clear hm hc hA hwf hn
  go_enter Try.func94, Try.ntmps94
  go_wp2_with fail
  refine K.out.mono ?_
  rintro e w1 ⟨v, rfl, hr, hv, hb⟩
  rcases hr.2 with ⟨rfl, hz⟩ | ⟨g, cap, cur, rfl, hbase, hgb, r1, r2, r3, r4⟩
  · have hz' : zs = [] := List.eq_nil_of_length_eq_zero hz
    subst hz'
    clear hr hv
    go_wp2_with (go_at_call 113; refine (Try.slices_Sort_int_none none 0 _).mono ?_; rintro e w2 ⟨rfl, rfl⟩)
    go_ret
    exact ⟨none, 0, rfl, fun i hi => absurd hi (by simp [srt]), hb⟩
  · have hH : Holds encZ w1 g 0 zs.toArray := holds_of_block_i hgb (by simpa using r4)
    have hgl : g < w1.heap.size := (Array.getElem?_eq_some_iff.1 hgb).1
    have cS := Try.slices_Sort_int g 0 cap zs w1 hH hgl (by omega)
    have hfin : ∀ nn os, ∃ A c, Value.slice (some ⟨g, 0, none⟩) zs.length cap = .slice A zs.length c ∧ RdI (grow (putRow encZ (Sort.ahead w1 nn) g 0 (srt zs).toArray) os) .i64 A (srt zs) ∧ Below w.heap.size w (grow (putRow encZ (Sort.ahead w1 nn) g 0 (srt zs).toArray) os) := by
      intro nn os
      have h1 := ownsRow_sorted_i (n := nn) (os := os) (ts := srt zs) (srt_len zs) hbase hgb r1 r2 r3
      have h2 : (grow (putRow encZ (Sort.ahead w1 nn) g 0 (srt zs).toArray) os).ownsRow w.heap.size 3 1 (.slice (some ⟨g, 0, none⟩) zs.length cap) (srt zs).length ((srt zs).map (Value.int .i64)) := by rw [srt_len]; exact h1
      obtain ⟨A, c', e, hR⟩ := ownR_rd h2 HW.out
      rw [srt_len] at e
      exact ⟨A, c', e, hR, hb.grown (grownBy_sorted_i _) hb.size (fun j hj => by cases hj; exact hbase)⟩
    have HF := Lib.hid hfin
    have HS := Lib.hid cS
    clear hr hv hH cS hfin hgb r1 r2 r3 r4
    go_wp2_with fail
    refine HS.out.mono ?_
    rintro e w2 ⟨rfl, nn, os, rfl⟩
    go_wp2_with fail
    go_ret
    obtain ⟨A, c', e1, e2, e3⟩ := HF.out nn os
    exact ⟨A, c', by rw [← e1]; rfl, e2, e3⟩
end Go.Proofs.Ytcofafiacpecnaa
