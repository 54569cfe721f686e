/- slices.Collect of slices.Values at any row of entries. -/
import Derived.Test.YtobeppajomhfjaaHeapA
import Derived.RangeFuncWrites
namespace Go.Proofs.Ytobeppajomhfjaa
open Go.RowKit Go.Shelf
set_option linter.unusedSimpArgs false
set_option linter.unusedVariables false
attribute [local go_sem] Oper.semAt_some
set_option maxHeartbeats 1000000 in
theorem values_any (A : Option Addr) (n c : Nat) (w : World) :
    Calls Try.prog 23 #[.slice A n c] w fun e w' => e = .returned (.func (.func 32) #[] #[.pointer (some ⟨w.heap.size, 0, none⟩)]) ∧ w' = w.alloc (.cells #[.slice A n c] 22) := by
  go_enter Try.func23, Try.ntmps23
  go_wp2_with fail
  go_ret
  exact ⟨rfl, rfl⟩
theorem grown_alloc (W : World) (x : Obj) : W.grownBy (W.alloc x) none := by
  have h := (Below.refl W.heap.size W).alloc (Nat.le_refl _) x
  exact ⟨h.os, h.tape, h.output, h.size, fun i hi _ => h.block i hi⟩
theorem values_stops (m Bs b o c : Nat) (A : Option Addr) (L : List Ent) (w : World) (hz : L.length ≤ 1000) (hA : 0 < L.length → A = some ⟨b, o, none⟩)
    (hs : w.cell? ⟨Bs, 0, none⟩ = some (.slice A L.length c)) (hcell : ∀ i j, i < L.length → j < 3 → w.cell? ⟨b, o + i * 3 + j, none⟩ = some (.int .i64 (zE L i j))) :
    SeqStopsK Fence.wide (m + 1) Try.prog 32 #[.pointer (some ⟨Bs, 0, none⟩)] (fun x : Ent => #[aE x]) (KpV Bs b) (fun ys => ys = L) (fun _ => True) 1001 w := fun l J Jx W hW hJ _ hY h0 =>
  values1_in m l Bs b o c A L hz hA J Jx (fun ss W1 x h => hJ ss W1 _ none h (grown_alloc W1 x) (fun r e => by cases e)) hY W ((hW.cell (p := ⟨Bs, 0, none⟩) (lt_of_cell hs)).trans hs) (fun i j hi hj => (hW.cell (p := ⟨b, o + i * 3 + j, none⟩) (lt_of_cell (hcell i j hi hj))).trans (hcell i j hi hj)) h0
theorem enInfo : (Try.prog.info? 24).map (fun i => (i.zero, i.size, i.bytes)) = some (some (.agg #[.int .i64 0, .int .i64 0, .int .i64 0]), 3, 24) := by kernel_rfl
theorem own_monoE {w : World} {base base' : Nat} {e : TypeId} {size : Nat} {v : Value} {n : Nat} {xs : List Value} (h : w.ownsRow base e size v n xs) (hb : base' ≤ base) : w.ownsRow base' e size v n xs := by
  refine ⟨h.1, ?_⟩
  rcases h.2 with h | ⟨g, cap, cur, h1, h2, h3⟩
  · exact .inl h
  · exact .inr ⟨g, cap, cur, h1, Nat.le_trans hb h2, h3⟩
theorem rowE_push (L : List Ent) (x : Ent) : rowM 3 (zE L) L.length ++ [.int .i64 x.1, .int .i64 x.2.1, .int .i64 x.2.2] = rowM 3 (zE (L ++ [x])) (L ++ [x]).length := by
  rw [List.length_append, show ([x] : List Ent).length = 1 from rfl, rowM_succ]
  congr 1
  · refine rowM_congr fun i j hi hj => ?_
    unfold zE
    rw [List.getD_eq_getElem?_getD, List.getD_eq_getElem?_getD, List.getElem?_append_left hi]
  · have e : (L ++ [x]).getD L.length (0, 0, 0) = x := by
      rw [List.getD_eq_getElem?_getD, List.getElem?_append_right (Nat.le_refl _), Nat.sub_self]; rfl
    unfold zE
    rw [e]
    rfl
theorem blk_ownE (H : Nat) (B : Nat) (t : TypeId) (cs : Array Value) : OwnFrom H (fun (_ : Unit) W => Blk W B t cs) := fun s X Y row h hg hr => (hg.block B h.lt (fun e' => by
  obtain ⟨_, o, ho, hc⟩ := hr B e'.symm
  rw [show X.heap[B]? = _ from h] at ho; cases ho; cases hc)).trans h
/-- a row of the call's own: what another row holds -/
def AppR (L : List Ent) (w : World) (e : Ending) (w' : World) : Prop := ∃ v', e = .returned v' ∧ w'.ownsRow w.heap.size 24 3 v' L.length (rowM 3 (zE L) L.length) ∧ Below w.heap.size w w'
set_option maxRecDepth 100000 in
set_option maxHeartbeats 2000000 in
theorem appendSeq_in (n Bs b o c : Nat) (A : Option Addr) (L : List Ent) (w : World) (hz : L.length ≤ 1000) (hA : 0 < L.length → A = some ⟨b, o, none⟩) (hbs : b < w.heap.size) (hBs : Bs < w.heap.size)
    (hs : w.cell? ⟨Bs, 0, none⟩ = some (.slice A L.length c)) (hcell : ∀ i j, i < L.length → j < 3 → w.cell? ⟨b, o + i * 3 + j, none⟩ = some (.int .i64 (zE L i j))) :
    CallsIn Fence.wide (n + 3) Try.prog 41 #[.slice none 0 0, .func (.func 32) #[] #[.pointer (some ⟨Bs, 0, none⟩)]] w (AppR L w) := by
  obtain ⟨i0, hi, hz0, hz1, hz2⟩ := info_parts enInfo
  have hs1 := ((Below.refl w.heap.size w).alloc (Nat.le_refl _) (.cells #[.slice none 0 0] 22))
  have HST := Lib.hid (values_stops (n + 1) Bs b o c A L (w.alloc (.cells #[.slice none 0 0] 22)) hz hA ((hs1.cell (p := ⟨Bs, 0, none⟩) hBs).trans hs) (fun i j hi hj => (hs1.cell (p := ⟨b, o + i * 3 + j, none⟩) hbs).trans (hcell i j hi hj)))
  clear hs hcell
  refine callsIn_of_wp_marks Try.func41 rfl trivial ?_ rfl
  simp only [Try.ntmps41, List.size_toArray, List.length_cons, List.length_nil, Nat.reduceAdd, Nat.reduceSub, Array.replicate_succ, Array.replicate_zero, List.push_toArray, List.append_toArray, List.nil_append, List.cons_append]
  gi_wp2
  have bO := Boxed.new w 22 (.slice none 0 0)
  obtain ⟨W1, hW1⟩ : ∃ W, w.alloc (.cells #[.slice none 0 0] 22) = W := ⟨_, rfl⟩
  rw [hW1] at HST bO hs1
  have s1 : W1.heap.size = w.heap.size + 1 := by rw [← hW1]; simp
  try simp only [World.size_alloc, hW1]
  try rw [hW1]
  refine wpIn_rangeFunc_ownH rfl (by omega) (gf := 32) (lb := #[.pointer (some ⟨Bs, 0, none⟩)]) rfl trivial (enters_of Try.func32 (by kernel_rfl) rfl)
    HST.out (fun h1 h2 => ⟨h2.1.trans h1.1, h2.2.trans h1.2⟩) (fun W l o o' h1 h2 _ _ => ⟨World.putObj_heap_other (by omega), World.putObj_heap_other (by omega)⟩) (Below.refl _ _) (fun _ => rfl)
    (fun pre W => (∃ v, Boxed W w.heap.size 22 v ∧ W.ownsRow (w.heap.size + 1) 24 3 v pre.length (rowM 3 (zE pre) pre.length) ∧ True) ∧ Below w.heap.size w W)
    (fun _ _ _ => False)
    (OwnFrom.and (Own.from (holdsRow_own (w.heap.size + 1) w.heap.size 22 24 3 (fun pre : List Ent => pre.length) (fun pre : List Ent => rowM 3 (zE pre) pre.length) (fun _ _ => True)) _) (ownFrom_below (Nat.le_refl _) (by omega)))
    (fun _ _ _ _ _ hs _ _ => hs)
    ⟨⟨_, bO, by rw [List.length_nil, rowM_zero]; exact World.ownsRow_nil _ _ _ _, trivial⟩, hs1⟩
    (fun x a' W => ∃ B, a' = { tmps := #[.slice none 0 0, .func (.func 32) #[] #[.pointer (some ⟨Bs, 0, none⟩)], .pointer (some ⟨w.heap.size, 0, none⟩), undef, .slice none 0 0, .pointer (some ⟨B, 0, none⟩), .func (.func 32) #[] #[.pointer (some ⟨Bs, 0, none⟩)], aE x, undef, undef, undef, undef, undef], defers := [] } ∧ Blk W B 24 #[.int .i64 x.1, .int .i64 x.2.1, .int .i64 x.2.2])
    (fun x a' => fun s X Y row ⟨B, h1, h2⟩ hg hr => ⟨B, h1, blk_ownE _ B _ _ () X Y row h2 hg hr⟩) ?assign ?body ?done ?stop
  case assign =>
    rintro l pre ⟨t, k, d⟩ W K hI hK
    dsimp only [aE] at hK ⊢
    have hKo : KpV Bs b W (W.alloc (.cells #[.int .i64 t, .int .i64 k, .int .i64 d] 24)) := by
      have hsz := hI.2.size
      have h := (Below.refl W.heap.size W).alloc (Nat.le_refl _) (.cells #[.int .i64 t, .int .i64 k, .int .i64 d] 24)
      exact ⟨h.block Bs (by omega), h.block b (by omega)⟩
    obtain ⟨⟨v, hv, hrow, _⟩, hB⟩ := hI
    have HK := Lib.hid (hK _ (W.alloc (.cells #[.int .i64 t, .int .i64 k, .int .i64 d] 24)) ((KeepsOthers.alloc W _).from _) hKo ⟨⟨v, hv.alloc _, hrow.alloc _, trivial⟩, hB.alloc hB.size _⟩ ⟨W.heap.size, rfl, Blk.new W _ _⟩)
    clear hK hKo hv hrow hB
    gi_wp2
    exact HK.out
  case body =>
    rintro l pre ⟨t, k, d⟩ a' W _ _ ⟨⟨v, hv, hrow, _⟩, hB⟩ ⟨B, rfl, hbx⟩ hlt
    dsimp only [aE] at hbx ⊢
    have hc := hv.cell
    have hf := hv.frozen
    have c0 := hbx.cell 0
    have c1 := hbx.cell 1
    have c2 := hbx.cell 2
    have hsz := hB.size
    have hvl := hv.lt
    have hN := Blk.new W #[.int .i64 t, .int .i64 k, .int .i64 d] 24
    gi_wp2_with (gi_at_builtin; refine wpListIn_append_own _ rfl _ _ 22 rfl (w.heap.size + 1) 24 i0 (.agg #[.int .i64 0, .int .i64 0, .int .i64 0]) 3 24 Try.underlying22 hi hz0 hz1 hz2 rfl (by decide) v pre.length ?xs rfl ?hown ⟨W.heap.size, 0, none⟩ 1 1 [.int .i64 t, .int .i64 k, .int .i64 d] rfl rfl ?hc ?h1 ?b1 ?b2 ?b3 ?hK)
    case hown => exact hrow.alloc _
    case hc =>
      intro j u hj
      rcases j with _ | _ | _ | j <;> simp at hj <;> subst hj
      · exact hN.cell 0
      · exact hN.cell 1
      · exact hN.cell 2
    case h1 => simp [Value.oneCell']
    case b1 => unfold maxLen; omega
    case b2 => omega
    case b3 => simp; omega
    case hK =>
      intro v' w1 hown' hgrow _
      obtain ⟨g', cap', rfl⟩ := ownsRow_succ hown'
      obtain ⟨hv1, hv2, hr2, hk2, hb2⟩ := hv.appended (by decide) (own_monoE hrow (show w.heap.size ≤ w.heap.size + 1 by omega)) (by omega) (Nat.le_refl _) (own_monoE hown' (by omega)) hgrow
      have hof := hown'.kept (grownBy_setCell' w1 w.heap.size (.slice (some ⟨g', 0, none⟩) (pre.length + 1) cap')) (.inr (hv1.not_row (by decide) hown').symm)
      have hpu := rowE_push pre (t, k, d)
      have HFIN := Lib.hid (show _ ∧ _ ∧ _ from ⟨hk2.from W1.heap.size, (show KpV Bs b W _ from ⟨hb2.block Bs hBs, hb2.block b hbs⟩), (show (∃ v, Boxed (w1.setCell ⟨w.heap.size, 0, none⟩ (.slice (some ⟨g', 0, none⟩) (pre.length + 1) cap')) w.heap.size 22 v ∧ World.ownsRow (w1.setCell ⟨w.heap.size, 0, none⟩ (.slice (some ⟨g', 0, none⟩) (pre.length + 1) cap')) (w.heap.size + 1) 24 3 v (pre ++ [(t, k, d)]).length (rowM 3 (zE (pre ++ [(t, k, d)])) (pre ++ [(t, k, d)]).length) ∧ True) ∧ Below w.heap.size w _ from ⟨⟨_, hv2, by rw [← hpu, List.length_append]; exact hof, trivial⟩, hB.trans hb2⟩)⟩)
      have hc1 := hv1.cell
      have hf1 := hv1.frozen
      clear hof hpu hv2 hr2 hk2 hb2 hown' hgrow hN hc hf c0 c1 c2
      gi_wp2
      exact HFIN.out
  case done =>
    rintro D ys W hD hS ⟨⟨v, hv, hrow, _⟩, hB⟩ hK
    have hc := hv.cell
    subst hS
    gi_wp2
    refine ⟨by simp, .inl ⟨_, _, rfl, run_takeDeferred hK, ?_⟩⟩
    exact ⟨_, results_tmp rfl _ _ _, v, rfl, own_monoE (ownsRow_putObj hrow _ hK rfl) (by omega), hB.trans (belowK_b (w := w) (Nat.le_refl _) W D _ _ (by omega) hK rfl rfl)⟩
  case stop =>
    rintro D c pre W _ _ h _
    exact h.elim
end Go.Proofs.Ytobeppajomhfjaa
