/- hist.Wider at any row of at most 100 numbers. -/
import Derived.Test.YtnjdeikikdieoaaHistC
import Derived.RangeFuncWrites
namespace Go.Proofs.Ytnjdeikikdieoaa
open Go.RowKit Go.Shelf
set_option linter.unusedSimpArgs false
set_option linter.unusedVariables false
attribute [local go_sem] Oper.semAt_some
set_option maxHeartbeats 1000000 in
theorem chunk_any (A : Option Addr) (n c K : Nat) (w : World) (hK : 1 ≤ K) (hK2 : K ≤ 9223372036854775807) :
    Calls Try.prog 36 #[.slice A n c, .int .i64 K] w fun e w' => e = .returned (.func (.func 44) #[] #[.pointer (some ⟨w.heap.size, 0, none⟩), .pointer (some ⟨w.heap.size + 1, 0, none⟩)]) ∧ w' = (w.alloc (.cells #[.slice A n c] 47)).alloc (.cells #[.int .i64 K] 3) := by
  go_enter Try.func36, Try.ntmps36
  go_wp2_with fail
  go_ret
  exact ⟨rfl, rfl⟩
theorem chunk_stops (m Bs Bk : Nat) (A : Option Addr) (c K : Nat) (z : List Int) (w0 w : World) (hz : z.length ≤ 100) (hK : 1 ≤ K) (hK2 : K ≤ 9223372036854775807) (hr : RdI w0 .i64 A z) (hzc : z.length ≤ c) (hcm : c ≤ maxLen)
    (hs : w.cell? ⟨Bs, 0, none⟩ = some (.slice A z.length c)) (hk : w.cell? ⟨Bk, 0, none⟩ = some (.int .i64 K)) :
    SeqStopsK Fence.wide (m + 1) Try.prog 44 #[.pointer (some ⟨Bs, 0, none⟩), .pointer (some ⟨Bk, 0, none⟩)] (fun x : Part w0 => #[x.1.1]) (KpC Bs Bk) (fun ys => ys.map (fun x => x.1.2) = chF K 101 z) (fun _ => True) 101 w := fun l J Jx W hW hJ _ hY h0 =>
  chunk1_in m l Bs Bk A c K z w0 hz hK hK2 hr hzc hcm J Jx (fun ss W1 h => hJ ss W1 _ none h ⟨rfl, rfl, rfl, Nat.le_refl _, fun _ _ _ => rfl⟩ (fun r e => by cases e)) hY W ((hW.cell (p := ⟨Bs, 0, none⟩) (lt_of_cell hs)).trans hs) ((hW.cell (p := ⟨Bk, 0, none⟩) (lt_of_cell hk)).trans hk) h0
theorem own_mono {w : World} {base base' : Nat} {e : TypeId} {size : Nat} {v : Value} {n : Nat} {xs : List Value} (h : w.ownsRow base e size v n xs) (hb : base' ≤ base) : w.ownsRow base' e size v n xs := by
  refine ⟨h.1, ?_⟩
  rcases h.2 with h | ⟨g, cap, cur, h1, h2, h3⟩
  · exact .inl h
  · exact .inr ⟨g, cap, cur, h1, Nat.le_trans hb h2, h3⟩
theorem own_ne {w : World} {base B : Nat} {e : TypeId} {size : Nat} {v : Value} {n : Nat} {xs : List Value} (h : w.ownsRow base e size v n xs) (hb : B < base) : some B ≠ v.ownBlock := by
  rcases h.2 with ⟨rfl, _⟩ | ⟨g, cap, cur, rfl, h2, _⟩
  · simp [Value.ownBlock]
  · simp [Value.ownBlock]; omega
theorem totL_in (l : List Int) : -9223372036854775808 ≤ totL l ∧ totL l ≤ 9223372036854775807 := by
  rcases List.eq_nil_or_concat l with rfl | ⟨p, x, rfl⟩
  · decide
  · rw [List.concat_eq_append, totL_snoc]; exact wrap_i64_in _
theorem boxed_own {β : Type} (H B : Nat) (t : TypeId) (v : Value) : OwnFrom H (fun (_ : β) W => Boxed W B t v) := fun s X Y row h hg hr => h.kept hg (fun e' => by
  obtain ⟨_, o, ho, hc⟩ := hr B e'.symm
  rw [show X.heap[B]? = _ from h] at ho; cases ho; cases hc)
def WidR (K : Nat) (l : List Int) (w : World) (e : Ending) (w' : World) : Prop := ∃ v', e = .returned (.tuple #[v', .int .i64 0]) ∧ IsI w' v' ((chF K 101 l).map totL) ∧ Below w.heap.size w w'
set_option maxRecDepth 100000 in
set_option maxHeartbeats 2000000 in
theorem wider_in (n : Nat) (A : Option Addr) (c K : Nat) (z : List Int) (w : World) (hz : z.length ≤ 100) (hK : 1 ≤ K) (hK2 : K ≤ 9223372036854775807) (hr : RdI w .i64 A z) (hzc : z.length ≤ c) (hcm : c ≤ maxLen) :
    CallsIn Fence.wide (n + 3) Try.prog 21 #[.slice A z.length c, .int .i64 K] w (WidR K z w) := by
  obtain ⟨i0, hi, hz0, hz1, hz2⟩ := info_parts mkInfo
  have HR := Lib.hid hr
  clear hr
  have hKc : ¬ (K : Int) < 1 := by omega
  refine callsIn_of_wp_marks Try.func21 rfl trivial ?_ rfl
  simp only [Try.ntmps21, List.size_toArray, List.length_cons, List.length_nil, Nat.reduceAdd, Nat.reduceSub, Array.replicate_succ, Array.replicate_zero, List.push_toArray, List.append_toArray, List.nil_append, List.cons_append]
  gi_wp2_with (refine ⟨trivial, ?_⟩; gi_at_call 36; refine (callsIn_wide.2 (chunk_any A z.length c K _ hK hK2)).mono ?_; rintro e w' ⟨rfl, rfl⟩)
  have bO := Boxed.new w 47 (.slice none 0 0)
  have bS := Boxed.new (w.alloc (.cells #[.slice none 0 0] 47)) 47 (.slice A z.length c)
  have bK := Boxed.new ((w.alloc (.cells #[.slice none 0 0] 47)).alloc (.cells #[.slice A z.length c] 47)) 3 (.int .i64 K)
  rw [World.size_alloc] at bS
  rw [World.size_alloc, World.size_alloc] at bK
  obtain ⟨W1, hW1⟩ : ∃ W, ((w.alloc (.cells #[.slice none 0 0] 47)).alloc (.cells #[.slice A z.length c] 47)).alloc (.cells #[.int .i64 K] 3) = W := ⟨_, rfl⟩
  have hB0 : Below w.heap.size w W1 := by rw [← hW1]; exact (((Below.refl _ w).alloc (Nat.le_refl _) _).alloc (by simp) _).alloc (by simp; omega) _
  have s1 : W1.heap.size = w.heap.size + 3 := by rw [← hW1]; simp
  have bO1 : Boxed W1 w.heap.size 47 (.slice none 0 0) := by rw [← hW1]; exact (bO.alloc _).alloc _
  have bS1 : Boxed W1 (w.heap.size + 1) 47 (.slice A z.length c) := by rw [← hW1]; exact bS.alloc _
  have bK1 : Boxed W1 (w.heap.size + 1 + 1) 3 (.int .i64 K) := by rw [← hW1]; exact bK
  try simp only [World.size_alloc, hW1]
  try rw [hW1]
  clear bO bS bK
  refine wpIn_rangeFunc_ownG rfl (by omega) (gf := 44) (lb := #[.pointer (some ⟨w.heap.size + 1, 0, none⟩), .pointer (some ⟨w.heap.size + 1 + 1, 0, none⟩)]) rfl trivial (enters_of Try.func44 (by kernel_rfl) rfl)
    (chunk_stops (n + 1) (w.heap.size + 1) (w.heap.size + 1 + 1) A c K z w W1 hz hK hK2 HR.out hzc hcm bS1.cell bK1.cell) (fun h1 h2 => ⟨h2.1.trans h1.1, h2.2.trans h1.2⟩) (fun W l o o' h1 h2 _ _ => ⟨World.putObj_heap_other (by omega), World.putObj_heap_other (by omega)⟩) (Below.refl _ _) (fun _ => rfl)
    (fun pre W => (∃ v, Boxed W w.heap.size 47 v ∧ W.ownsRow (w.heap.size + 3) 3 1 v pre.length ((pre.map (fun x => totL x.1.2)).map (Value.int .i64)) ∧ True) ∧ Boxed W (w.heap.size + 1) 47 (.slice A z.length c) ∧ Boxed W (w.heap.size + 1 + 1) 3 (.int .i64 K) ∧ Below w.heap.size w W)
    (fun _ _ _ => False)
    (OwnFrom.and (Own.from (holdsRow_own (w.heap.size + 3) w.heap.size 47 3 1 (fun pre : List (Part w) => pre.length) (fun pre : List (Part w) => (pre.map (fun x : Part w => totL x.1.2)).map (Value.int .i64)) (fun _ _ => True)) _) (OwnFrom.and (boxed_own _ _ _ _) (OwnFrom.and (boxed_own _ _ _ _) (ownFrom_below (Nat.le_refl _) (by omega)))))
    (fun _ _ _ _ _ hs _ _ => hs)
    ⟨⟨_, bO1, World.ownsRow_nil _ _ _ _, trivial⟩, bS1, bK1, hB0⟩
    (fun x => { tmps := #[.slice A z.length c, .int .i64 K, undef, undef, .slice none 0 0, .int .i64 0, .pointer (some ⟨w.heap.size, 0, none⟩), x.1.1, .int .i64 K, .bool false, .slice A z.length c, .int .i64 K, .func (.func 44) #[] #[.pointer (some ⟨w.heap.size + 1, 0, none⟩), .pointer (some ⟨w.heap.size + 1 + 1, 0, none⟩)], x.1.1, undef, undef, undef, undef, undef, undef], defers := [] }) ?assign ?body ?done ?stop
  case assign =>
    intro l x W K hK
    gi_wp2
    exact hK
  case body =>
    rintro l pre ⟨⟨vx, lx⟩, hx1, hx2⟩ W ⟨⟨v, hv, hrow, _⟩, hS, hKb, hB⟩ hlt
    dsimp only at hx1 hx2 ⊢
    have hc := hv.cell
    have hf := hv.frozen
    have HX := Lib.hid (IsI.kept hx1 hB)
    have HTT := Lib.hid (htot_any vx lx W.drew (IsI.kept HX.out (Below.refl _ W).drew) (by omega))
    have hrD : W.drew.ownsRow (w.heap.size + 3) 3 1 v pre.length ((pre.map (fun x => totL x.1.2)).map (Value.int .i64)) := hrow.kept (row := none) ⟨rfl, rfl, rfl, Nat.le_refl _, fun _ _ _ => rfl⟩ (by cases hh : v.ownBlock <;> simp)
    have hvD : Boxed W.drew w.heap.size 47 v := hv
    have hsz := hB.size
    have s2' : w.heap.size + 3 ≤ W.heap.size := by have := hKb.lt; omega
    have s1' : w.heap.size + 3 ≤ W.drew.heap.size := by have := hKb.lt; show _ ≤ W.heap.size; omega
    have hfol : Try.prog.follows Departure.mixedOrders = true := by kernel_rfl
    obtain ⟨v', w1, hr, hown', hgrow, _, _⟩ := run_append_own_at (P := Try.prog) (W.alloc (.cells #[.int .i64 (totL lx)] 3)).drew (w.heap.size + 3) 47 47 3 i0 (.int .i64 0) 1 8 Try.underlying47 hi hz0 hz1 hz2 rfl (by decide) v pre.length _ (hrD.alloc _) ⟨W.heap.size, 0, none⟩ 1 1 [.int .i64 (totL lx)] rfl (by exact cell_one_new W.drew (.int .i64 (totL lx)) 3) (by simp [Value.oneCell']) (by unfold maxLen; omega) (by omega) (by simp; omega)
    obtain ⟨g', cap', rfl⟩ := ownsRow_succ hown'
    obtain ⟨hv1, hv2, hr2, hk2, hb2⟩ := hvD.appended (by decide) (own_mono hrD (by omega)) (by omega) (Nat.le_refl _) (own_mono hown' (by omega)) hgrow
    have hSf : Boxed (w1.setCell ⟨w.heap.size, 0, none⟩ (.slice (some ⟨g', 0, none⟩) (pre.length + 1) cap')) (w.heap.size + 1) 47 (.slice A z.length c) := (((show Boxed W.drew _ _ _ from hS).alloc _).kept hgrow (own_ne hrD (by omega))).kept (grownBy_setCell' w1 _ _) (by simp)
    have hKf : Boxed (w1.setCell ⟨w.heap.size, 0, none⟩ (.slice (some ⟨g', 0, none⟩) (pre.length + 1) cap')) (w.heap.size + 1 + 1) 3 (.int .i64 K) := (((show Boxed W.drew _ _ _ from hKb).alloc _).kept hgrow (own_ne hrD (by omega))).kept (grownBy_setCell' w1 _ _) (by simp; omega)
    have hof := hown'.kept (grownBy_setCell' w1 w.heap.size (.slice (some ⟨g', 0, none⟩) (pre.length + 1) cap')) (.inr (hv1.not_row (by decide) hown').symm)
    have HFIN := Lib.hid (show _ ∧ _ ∧ _ from ⟨((KeepsOthers.drew W).trans hk2).from W1.heap.size, (show KpC (w.heap.size + 1) (w.heap.size + 1 + 1) W _ from ⟨(show _ = _ from hSf).trans (show _ = _ from hS).symm, (show _ = _ from hKf).trans (show _ = _ from hKb).symm⟩), (show (∃ v, Boxed (w1.setCell ⟨w.heap.size, 0, none⟩ (.slice (some ⟨g', 0, none⟩) (pre.length + 1) cap')) w.heap.size 47 v ∧ World.ownsRow (w1.setCell ⟨w.heap.size, 0, none⟩ (.slice (some ⟨g', 0, none⟩) (pre.length + 1) cap')) (w.heap.size + 3) 3 1 v (pre ++ [(⟨(vx, lx), hx1, hx2⟩ : Part w)]).length (((pre ++ [(⟨(vx, lx), hx1, hx2⟩ : Part w)]).map (fun x => totL x.1.2)).map (Value.int .i64)) ∧ True) ∧ Boxed _ (w.heap.size + 1) 47 (.slice A z.length c) ∧ Boxed _ (w.heap.size + 1 + 1) 3 (.int .i64 K) ∧ Below w.heap.size w _ from ⟨⟨_, hv2, by simpa using hof, trivial⟩, hSf, hKf, (hB.drew).trans hb2⟩)⟩)
    clear hSf hKf hof
    have hc1 := hv1.cell
    have hcA := (hv.alloc (.cells #[.int .i64 (totL lx)] 3)).cell
    have hf1 := hv1.frozen
    gi_wp2
    refine wpIn_region_any hfol ?_
    refine wpAnyIn_ready (rs := [0, 1]) (by kernel_rfl) (by simp) ?_
    refine AllReadyIn.cons rfl (fun K' hK => ?_) ?_
    · go_simp
      refine hK _ _ ?_
      clear hK K'
      refine wpAnyIn_ready (rs := [1]) (by kernel_rfl) (by simp) ?_
      refine AllReadyIn.cons rfl (fun K' hK => ?_) ?_
      · go_simp
        refine hK _ _ ?_
        clear hK K'
        refine wpAnyIn_ready (rs := [2]) (by kernel_rfl) (by simp) ?_
        refine AllReadyIn.cons rfl (fun K' hK => ?_) ?_
        · gi_wp2_with (refine ⟨trivial, ?_⟩; gi_at_call 24; refine (CallsIn.inRound l (callsIn_wide.2 HTT.out)).mono ?_; rintro e w' ⟨rfl, rfl⟩)
          try (refine hK _ _ ?_)
          try clear hK K'
          refine wpAnyIn_ready (rs := [3]) (by kernel_rfl) (by simp) ?_
          refine AllReadyIn.cons rfl (fun K' hK => ?_) ?_
          · go_simp
            refine hK _ _ ?_
            clear hK K'
            refine wpAnyIn_ready (rs := [4]) (by kernel_rfl) (by simp) ?_
            refine AllReadyIn.cons rfl (fun K' hK => ?_) ?_
            · rw [if_pos (by rfl)]
              unfold Oper.wpIn
              refine ⟨by simp [Oper.about, resolve, Target.leads, Sem.run_pure], ?_⟩
              rw [show (Fence.wide.inRound l).round = some l from rfl, Oper.semAt_some]
              rotate_left
              · intro c h; cases h
              simp [Act.eval, execOp, resolve, invoke, builtin, hr, Result.andThen, Oper.uponIn_value]
              refine hK _ _ ?_
              clear hK K'
              refine wpAnyIn_ready (rs := [5]) (by kernel_rfl) (by simp) ?_
              refine AllReadyIn.cons rfl (fun K' hK => ?_) ?_
              · go_simp
                refine hK _ _ ?_
                clear hK K'
                refine wpAnyIn_done (by kernel_rfl) ?_ _
                gi_wp2
                exact HFIN.out
              exact AllReadyIn.nil
            exact AllReadyIn.nil
          exact AllReadyIn.nil
        exact AllReadyIn.nil
      exact AllReadyIn.nil
    refine AllReadyIn.cons rfl (fun K' hK => ?_) ?_
    · go_simp
      refine hK _ _ ?_
      clear hK K'
      refine wpAnyIn_ready (rs := [0, 2]) (by kernel_rfl) (by simp) ?_
      refine AllReadyIn.cons rfl (fun K' hK => ?_) ?_
      · go_simp
        refine hK _ _ ?_
        clear hK K'
        refine wpAnyIn_ready (rs := [2]) (by kernel_rfl) (by simp) ?_
        refine AllReadyIn.cons rfl (fun K' hK => ?_) ?_
        · gi_wp2_with (refine ⟨trivial, ?_⟩; gi_at_call 24; refine (CallsIn.inRound l (callsIn_wide.2 HTT.out)).mono ?_; rintro e w' ⟨rfl, rfl⟩)
          try (refine hK _ _ ?_)
          try clear hK K'
          refine wpAnyIn_ready (rs := [3]) (by kernel_rfl) (by simp) ?_
          refine AllReadyIn.cons rfl (fun K' hK => ?_) ?_
          · go_simp
            refine hK _ _ ?_
            clear hK K'
            refine wpAnyIn_ready (rs := [4]) (by kernel_rfl) (by simp) ?_
            refine AllReadyIn.cons rfl (fun K' hK => ?_) ?_
            · rw [if_pos (by rfl)]
              unfold Oper.wpIn
              refine ⟨by simp [Oper.about, resolve, Target.leads, Sem.run_pure], ?_⟩
              rw [show (Fence.wide.inRound l).round = some l from rfl, Oper.semAt_some]
              rotate_left
              · intro c h; cases h
              simp [Act.eval, execOp, resolve, invoke, builtin, hr, Result.andThen, Oper.uponIn_value]
              refine hK _ _ ?_
              clear hK K'
              refine wpAnyIn_ready (rs := [5]) (by kernel_rfl) (by simp) ?_
              refine AllReadyIn.cons rfl (fun K' hK => ?_) ?_
              · go_simp
                refine hK _ _ ?_
                clear hK K'
                refine wpAnyIn_done (by kernel_rfl) ?_ _
                gi_wp2
                exact HFIN.out
              exact AllReadyIn.nil
            exact AllReadyIn.nil
          exact AllReadyIn.nil
        exact AllReadyIn.nil
      refine AllReadyIn.cons rfl (fun K' hK => ?_) ?_
      · gi_wp2_with (refine ⟨trivial, ?_⟩; gi_at_call 24; refine (CallsIn.inRound l (callsIn_wide.2 HTT.out)).mono ?_; rintro e w' ⟨rfl, rfl⟩)
        try (refine hK _ _ ?_)
        try clear hK K'
        refine wpAnyIn_ready (rs := [0, 3]) (by kernel_rfl) (by simp) ?_
        refine AllReadyIn.cons rfl (fun K' hK => ?_) ?_
        · go_simp
          refine hK _ _ ?_
          clear hK K'
          refine wpAnyIn_ready (rs := [3]) (by kernel_rfl) (by simp) ?_
          refine AllReadyIn.cons rfl (fun K' hK => ?_) ?_
          · go_simp
            refine hK _ _ ?_
            clear hK K'
            refine wpAnyIn_ready (rs := [4]) (by kernel_rfl) (by simp) ?_
            refine AllReadyIn.cons rfl (fun K' hK => ?_) ?_
            · rw [if_pos (by rfl)]
              unfold Oper.wpIn
              refine ⟨by simp [Oper.about, resolve, Target.leads, Sem.run_pure], ?_⟩
              rw [show (Fence.wide.inRound l).round = some l from rfl, Oper.semAt_some]
              rotate_left
              · intro c h; cases h
              simp [Act.eval, execOp, resolve, invoke, builtin, hr, Result.andThen, Oper.uponIn_value]
              refine hK _ _ ?_
              clear hK K'
              refine wpAnyIn_ready (rs := [5]) (by kernel_rfl) (by simp) ?_
              refine AllReadyIn.cons rfl (fun K' hK => ?_) ?_
              · go_simp
                refine hK _ _ ?_
                clear hK K'
                refine wpAnyIn_done (by kernel_rfl) ?_ _
                gi_wp2
                exact HFIN.out
              exact AllReadyIn.nil
            exact AllReadyIn.nil
          exact AllReadyIn.nil
        refine AllReadyIn.cons rfl (fun K' hK => ?_) ?_
        · go_simp
          refine hK _ _ ?_
          clear hK K'
          refine wpAnyIn_ready (rs := [0]) (by kernel_rfl) (by simp) ?_
          refine AllReadyIn.cons rfl (fun K' hK => ?_) ?_
          · go_simp
            refine hK _ _ ?_
            clear hK K'
            refine wpAnyIn_ready (rs := [4]) (by kernel_rfl) (by simp) ?_
            refine AllReadyIn.cons rfl (fun K' hK => ?_) ?_
            · rw [if_pos (by rfl)]
              unfold Oper.wpIn
              refine ⟨by simp [Oper.about, resolve, Target.leads, Sem.run_pure], ?_⟩
              rw [show (Fence.wide.inRound l).round = some l from rfl, Oper.semAt_some]
              rotate_left
              · intro c h; cases h
              simp [Act.eval, execOp, resolve, invoke, builtin, hr, Result.andThen, Oper.uponIn_value]
              refine hK _ _ ?_
              clear hK K'
              refine wpAnyIn_ready (rs := [5]) (by kernel_rfl) (by simp) ?_
              refine AllReadyIn.cons rfl (fun K' hK => ?_) ?_
              · go_simp
                refine hK _ _ ?_
                clear hK K'
                refine wpAnyIn_done (by kernel_rfl) ?_ _
                gi_wp2
                exact HFIN.out
              exact AllReadyIn.nil
            exact AllReadyIn.nil
          exact AllReadyIn.nil
        exact AllReadyIn.nil
      exact AllReadyIn.nil
    exact AllReadyIn.nil
  case done =>
    rintro D ys W hD hS ⟨⟨v, hv, hrow, _⟩, _, _, hB⟩ hK
    have hc := hv.cell
    gi_wp2
    refine ⟨by simp, .inl ⟨_, _, rfl, run_takeDeferred hK, ?_⟩⟩
    have hl : ys.length = ((chF K 101 z).map totL).length := by rw [← hS]; simp
    have hm : ys.map (fun x => totL x.1.2) = (chF K 101 z).map totL := by rw [← hS, List.map_map]; rfl
    rw [hm, hl] at hrow
    have hin : ∀ x, x ∈ (chF K 101 z).map totL → -9223372036854775808 ≤ x ∧ x ≤ 9223372036854775807 := by
      intro x hx
      obtain ⟨l, _, rfl⟩ := List.mem_map.1 hx
      exact totL_in l
    exact ⟨_, results_tmp2 rfl _ _ _, v, rfl, own_isI (ownsRow_putObj hrow _ hK rfl) hin, hB.trans (belowK_b (w := w) (Nat.le_refl _) W D _ _ (by omega) hK rfl rfl)⟩
  case stop =>
    rintro D c pre W _ _ h _
    exact h.elim
end Go.Proofs.Ytnjdeikikdieoaa
