/-
  Contracts of the functions of chapter 1 (second part: sums and differences).
-/
import Derived.Test.YtlplphigjejahaaDoorBa
import Derived.Test.YtlplphigjejahaaDoorKib
import Derived.Deep.DeepCutAuto
set_option linter.unusedSimpArgs false
set_option linter.unusedVariables false
namespace Go.Proofs.YtlplphigjejahaaDoor
open Go.RowKit Go.BigFrame


theorem firstE_nil {l : List Int} : firstE l = 0 ↔ ∀ e ∈ l, e = 0 := by
  induction l with
  | nil => simp [firstE]
  | cons e r ih =>
    by_cases h : e = 0
    · simp [firstE, h, ih]
    · simp [firstE, h]
theorem eIf_zero {b : Bool} {e : Int} (he : e ≠ 0) : eIf b e = 0 ↔ b = false := by unfold eIf; cases b <;> simp [he]
theorem sumErr_ok {aw av bw bv c : Int} : sumErr aw av bw bv c = 0 ↔ (1 ≤ aw ∧ aw ≤ 16 ∧ 0 ≤ av ∧ av < pw aw) ∧ (0 ≤ bv ∧ bv < pw aw) ∧ aw = bw ∧ (c = 0 ∨ c = 1) := by
  unfold sumErr
  rw [firstE_nil]
  simp only [List.mem_cons, List.not_mem_nil, or_false, forall_eq_or_imp, forall_eq, eIf_zero (show (25 : Int) ≠ 0 by decide), eIf_zero (show (2 : Int) ≠ 0 by decide), bErr_ok]
  constructor
  · rintro ⟨h1, h2, h3, h4⟩
    have e : aw = bw := by simpa using h3
    subst e
    refine ⟨h1, ⟨h2.2.2.1, h2.2.2.2⟩, rfl, ?_⟩
    by_cases h : c = 0
    · exact Or.inl h
    · exact Or.inr (by simpa [h] using h4)
  · rintro ⟨h1, h2, rfl, h4⟩
    refine ⟨h1, ⟨h1.1, h1.2.1, h2.1, h2.2⟩, by simp, ?_⟩
    rcases h4 with rfl | rfl <;> simp


set_option maxRecDepth 20000 in
set_option maxHeartbeats 800000 in
theorem AddWith_c (wd av bv c : Int) (w : World) (h1 : 1 ≤ wd) (h2 : wd ≤ 16) (h3 : 0 ≤ av) (h4 : av < pw wd) (h5 : 0 ≤ bv) (h6 : bv < pw wd) (h7 : 0 ≤ c) (h8 : c ≤ 1) (h9 : Hid (sumErr wd av wd bv c = 0)) :
    Calls Tryd.prog 10 #[.agg #[.int .i64 wd, .int .i64 av], .agg #[.int .i64 wd, .int .i64 bv], .int .i64 c] w fun e w' => e = .returned (.tuple #[.agg #[.int .i64 wd, .int .i64 (md (av + bv + c) (pw wd)), .int .i64 (fl ((av + bv + c) != md (av + bv + c) (pw wd))), .int .i64 (fl ((sg wd av + sg wd bv + c) != sg wd (md (av + bv + c) (pw wd)))), .int .i64 (fl (md (av + bv + c) (pw wd) == 0)), .int .i64 (bitI wd (md (av + bv + c) (pw wd)) (wd - 1))], .int .i64 0]) ∧ ∃ x : Aft w, w' = x.val := by
  have hp := pw_bd (n := wd) (by omega) h2
  have hsa := sg_bd h1 h2 h3 h4
  have hsb := sg_bd h1 h2 h5 h6
  go_enter Tryd.func10, Tryd.ntmps10
  go_wp2_with fail
  refine (errorOfSum_c _ _ _ _ _ _).mono ?_
  rw [h9.out]
  rintro e w' ⟨rfl, x1, rfl⟩
  go_wp2_with fail
  have hz0 : w.heap.size < x1.val.heap.size := by have := x1.size; simp at this; omega
  have hz1 : w.heap.size + 1 < x1.val.heap.size := by have := x1.size; simp at this; omega
  refine wp_region_new 4 6 [.cells #[.int .i64 0, .int .i64 0, .int .i64 0] 68, .cells #[.int .i64 0, .int .i64 0, .int .i64 0] 68] (by kernel_rfl) (by kernel_rfl) rfl ?hal ?_
  case hal =>
    intro i o ob ho ha
    have hi : i = 4 ∨ i = 5 := by
      by_cases h : i < 4
      · simp [h] at ha
      · rcases Nat.lt_or_ge i 6 with h6 | h6
        · omega
        · simp only [if_neg h] at ha
          rw [List.getElem?_eq_none (by simp; omega)] at ha; cases ha
    rcases hi with rfl | rfl
    all_goals
      simp at ho ha
      subst ho ha
      refine ⟨rfl, fun a w => ?_⟩
      go_simp
  simp only [List.take_succ_cons, List.take_zero, List.drop_succ_cons, List.drop_zero, List.map_cons, List.map_nil, List.zip_cons_cons, List.zip_nil_right]
  repeat (refine wpU_step (fun K hK => ?_); go_simp; first | (refine hK _ ?_; clear hK K) | (apply Exists.intro; refine ⟨fun _ => ?_, hK _ ?_⟩; (first | (go_at_call 32; exact operandOf_c _ _ (by omega) (by omega) (by omega) (by omega) _)); clear hK K))
  refine wpU_nil ?_
  simp only [wpNew]
  intro g hg h hh x ⟨⟨hk0, hg1, hg2⟩, hh1, hh2⟩
  clear hk0
  have hne : ¬ h = g := fun e => hh (Or.inl e)
  have hne' : ¬ g = h := fun e => hne e.symm
  have hr2 : w.heap.size + 1 + 1 < x1.val.heap.size := by have := x1.size; simp at this; omega
  have n1 : ¬ g = w.heap.size + 1 + 1 := by omega
  have n2 : ¬ h = w.heap.size + 1 + 1 := by omega
  have cg0 := cell_block (i := 0) hg2
  have cg1 := cell_block (i := 1) hg2
  have cg2 := cell_block (i := 2) hg2
  have ch0 := cell_block (i := 0) hh2
  have ch1 := cell_block (i := 1) hh2
  have ch2 := cell_block (i := 2) hh2
  have fg0 := free_block (i := 0) hg2
  have fg1 := free_block (i := 1) hg2
  have fg2 := free_block (i := 2) hg2
  have fh0 := free_block (i := 0) hh2
  have fh1 := free_block (i := 1) hh2
  have fh2 := free_block (i := 2) hh2
  simp at cg0 cg1 cg2 ch0 ch1 ch2
  clear hg2 hh2 hh hg
  go_wp2_with fail
  refine (flagged_c _ _ _ h1 h2 _).mono ?_
  rintro e w' ⟨rfl, z, rfl⟩
  have hb : Below w.heap.size w z.val := by (repeat' (first | (with_reducible exact Below.refl _ _) | (with_reducible refine Below.alloc ?_ ?_ _) | (with_reducible refine Below.drew ?_) | (with_reducible refine Aft.below _ ?_ ?_) | (with_reducible refine Below.setCell_new ?_ ?_ _ _) | (with_reducible exact Nat.le_refl _) | (with_reducible refine Aft.le _ ?_) | (with_reducible refine le_alloc ?_) | (with_reducible refine le_drew ?_) | (with_reducible refine le_setCell ?_) | omega))
  have hs : w.heap.size + 1 + 1 < z.val.heap.size := by have := z.size; simp at this; have := x.size; omega
  have rr : z.val.heap[w.heap.size + 1 + 1]? = some (.cells #[.int .i64 0, .int .i64 0, .int .i64 0, .int .i64 0, .int .i64 0, .int .i64 0] 36) := by
    rw [z.heap _ (by simp; have := x.size; omega)]
    simp only [heap_setCell_ne n1, heap_setCell_ne n2]
    rw [x.heap _ hr2, x1.heap _ (by simp)]
    exact heap_alloc_at (by simp)
  clear cg0 cg1 cg2 ch0 ch1 ch2 fg0 fg1 fg2 fh0 fh1 fh2
  generalize z.val = W' at *
  clear z hg1 hh1 hne hne' n1 n2 hz0 hz1 hr2
  clear x x1
  have r0 := cell_block (i := 0) rr
  have r1 := cell_block (i := 1) rr
  have r2 := cell_block (i := 2) rr
  have r3 := cell_block (i := 3) rr
  have r4 := cell_block (i := 4) rr
  have r5 := cell_block (i := 5) rr
  have f0 := free_block (i := 0) rr
  have f1 := free_block (i := 1) rr
  have f2 := free_block (i := 2) rr
  have f3 := free_block (i := 3) rr
  have f4 := free_block (i := 4) rr
  have f5 := free_block (i := 5) rr
  simp at r0 r1 r2 r3 r4 r5
  clear rr
  go_wp2
  refine bodyPost_ret (by simp [results, Tryd.results10, go_sem, r0, r1, r2, r3, r4, r5]; try rfl) rfl ?_
  refine ⟨rfl, Below.aft ?_⟩
  clear r0 r1 r2 r3 r4 r5 f0 f1 f2 f3 f4 f5
  (repeat' (first | (with_reducible exact Below.refl _ _) | (with_reducible refine Below.alloc ?_ ?_ _) | (with_reducible refine Below.drew ?_) | (with_reducible refine Aft.below _ ?_ ?_) | (with_reducible refine Below.setCell_new ?_ ?_ _ _) | (with_reducible exact Nat.le_refl _) | (with_reducible refine Aft.le _ ?_) | (with_reducible refine le_alloc ?_) | (with_reducible refine le_drew ?_) | (with_reducible refine le_setCell ?_) | omega))

theorem AddWith_bad (aw av bw bv c er : Int) (w : World) (hn : er ≠ 0) (h9 : Hid (sumErr aw av bw bv c = er)) :
    Calls Tryd.prog 10 #[.agg #[.int .i64 aw, .int .i64 av], .agg #[.int .i64 bw, .int .i64 bv], .int .i64 c] w fun e w' => e = .returned (.tuple #[.agg #[.int .i64 0, .int .i64 0, .int .i64 0, .int .i64 0, .int .i64 0, .int .i64 0], .int .i64 er]) ∧ ∃ x : Aft w, w' = x.val := by
  have hn' : (er == 0) = false := by simpa using hn
  go_enter Tryd.func10, Tryd.ntmps10
  go_wp2_with fail
  refine (errorOfSum_c _ _ _ _ _ _).mono ?_
  rw [h9.out]
  rintro e w' ⟨rfl, x1, rfl⟩
  go_wp2
  refine bodyPost_ret (by simp [results, Tryd.results10, go_sem]; try rfl) rfl ?_
  exact ⟨rfl, Below.aft (by (repeat' (first | (with_reducible exact Below.refl _ _) | (with_reducible refine Below.alloc ?_ ?_ _) | (with_reducible refine Below.drew ?_) | (with_reducible refine Aft.below _ ?_ ?_) | (with_reducible refine Below.setCell_new ?_ ?_ _ _) | (with_reducible exact Nat.le_refl _) | (with_reducible refine Aft.le _ ?_) | (with_reducible refine le_alloc ?_) | (with_reducible refine le_drew ?_) | (with_reducible refine le_setCell ?_) | omega)))⟩


end Go.Proofs.YtlplphigjejahaaDoor
