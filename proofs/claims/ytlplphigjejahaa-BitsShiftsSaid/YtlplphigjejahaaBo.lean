/-
  Contracts of the functions of chapter 1 (eleventh part: the errors of shifts).
-/
import Derived.Test.YtlplphigjejahaaBc
import Derived.Test.YtlplphigjejahaaBg
set_option linter.unusedSimpArgs false
set_option linter.unusedVariables false
namespace Go.Proofs.Ytlplphigjejahaa
open Go.RowKit Go.BigFrame


set_option maxRecDepth 20000 in
set_option maxHeartbeats 1600000 in
theorem Shifted_bad (wd v k b er : Int) (w : World) (hn : er ≠ 0) (h9 : Hid (shErr wd v k b = er)) :
    Calls Try.prog 25 #[.agg #[.int .i64 wd, .int .i64 v], .int .i64 k, .int .i64 b] w fun e w' => e = .returned (.tuple #[.agg #[.int .i64 0, .int .i64 0], .int .i64 er]) ∧ ∃ x : Aft w, w' = x.val := by
  have hn' : (er == 0) = false := by simpa using hn
  have hb_ : (er != 0) = true := by simpa using hn
  clear hn
  by_cases hk : k < 0 <;> by_cases hb : b < 0
  · have hk' : decide (k < 0) = true := by simpa using hk
    have hb' : decide (b < 0) = true := by simpa using hb
    have h9' : Hid (firstE [bErr wd v, eIf (true) 15, eIf (true) 2] = er) := by
      have h := h9.out; unfold shErr at h; rw [hk', hb'] at h; exact h
    clear h9
    go_enter Try.func25, Try.ntmps25
    go_wp2_with fail
    refine wp_region_aft_tail 16 (by kernel_rfl) (by kernel_rfl) ?_
    simp only [List.take_succ_cons, List.take_zero, List.drop_succ_cons, List.drop_zero]
    repeat (go_big_quiet_step (first | (go_at_call 14; exact Calls.qa (CheckBits_c _ _ _)) | (go_at_call 65; exact Calls.qs (errorIf_c _ _ _))))
    refine wpQuiet_nil ?_
    intro x1
    have zx1_0 : w.heap.size < x1.val.heap.size := by have := x1.size; (try simp at this); omega
    have zx1_1 : w.heap.size + 1 < x1.val.heap.size := by have := x1.size; (try simp at this); omega
    have zx1_2 : w.heap.size + 1 + 1 < x1.val.heap.size := by have := x1.size; (try simp at this); omega
    go_wp2_with fail
    refine (firstError3 _ _ _ _ _ _ _ (by exact heap_alloc_at (by simp [go_sem]))).mono ?_
    rw [h9'.out]
    rintro e w' ⟨rfl, rfl⟩
    go_wp2
    refine bodyPost_ret (by simp [results, Try.results25, go_sem]; try rfl) rfl ?_
    exact ⟨rfl, Below.aft (by (repeat' (first | (with_reducible exact Below.refl _ _) | (with_reducible refine Below.alloc ?_ ?_ _) | (with_reducible refine Below.drew ?_) | (with_reducible refine Aft.below _ ?_ ?_) | (with_reducible refine Below.setCell_new ?_ ?_ _ _) | (with_reducible exact Nat.le_refl _) | (with_reducible refine Aft.le _ ?_) | (with_reducible refine le_alloc ?_) | (with_reducible refine le_drew ?_) | (with_reducible refine le_setCell ?_) | omega)))⟩
  · have hk' : decide (k < 0) = true := by simpa using hk
    have hb' : decide (b < 0) = false := by simpa using hb
    have h9' : Hid (firstE [bErr wd v, eIf (true) 15, eIf (decide (16 < b)) 2] = er) := by
      have h := h9.out; unfold shErr at h; rw [hk', hb'] at h; exact h
    clear h9
    go_enter Try.func25, Try.ntmps25
    go_wp2_with fail
    refine wp_region_aft_tail 16 (by kernel_rfl) (by kernel_rfl) ?_
    simp only [List.take_succ_cons, List.take_zero, List.drop_succ_cons, List.drop_zero]
    repeat (go_big_quiet_step (first | (go_at_call 14; exact Calls.qa (CheckBits_c _ _ _)) | (go_at_call 65; exact Calls.qs (errorIf_c _ _ _))))
    refine wpQuiet_nil ?_
    intro x1
    have zx1_0 : w.heap.size < x1.val.heap.size := by have := x1.size; (try simp at this); omega
    have zx1_1 : w.heap.size + 1 < x1.val.heap.size := by have := x1.size; (try simp at this); omega
    have zx1_2 : w.heap.size + 1 + 1 < x1.val.heap.size := by have := x1.size; (try simp at this); omega
    go_wp2_with fail
    refine (firstError3 _ _ _ _ _ _ _ (by exact heap_alloc_at (by simp [go_sem]))).mono ?_
    rw [h9'.out]
    rintro e w' ⟨rfl, rfl⟩
    go_wp2
    refine bodyPost_ret (by simp [results, Try.results25, go_sem]; try rfl) rfl ?_
    exact ⟨rfl, Below.aft (by (repeat' (first | (with_reducible exact Below.refl _ _) | (with_reducible refine Below.alloc ?_ ?_ _) | (with_reducible refine Below.drew ?_) | (with_reducible refine Aft.below _ ?_ ?_) | (with_reducible refine Below.setCell_new ?_ ?_ _ _) | (with_reducible exact Nat.le_refl _) | (with_reducible refine Aft.le _ ?_) | (with_reducible refine le_alloc ?_) | (with_reducible refine le_drew ?_) | (with_reducible refine le_setCell ?_) | omega)))⟩
  · have hk' : decide (k < 0) = false := by simpa using hk
    have hb' : decide (b < 0) = true := by simpa using hb
    have h9' : Hid (firstE [bErr wd v, eIf (decide (5 ≤ k)) 15, eIf (true) 2] = er) := by
      have h := h9.out; unfold shErr at h; rw [hk', hb'] at h; exact h
    clear h9
    go_enter Try.func25, Try.ntmps25
    go_wp2_with fail
    refine wp_region_aft_tail 16 (by kernel_rfl) (by kernel_rfl) ?_
    simp only [List.take_succ_cons, List.take_zero, List.drop_succ_cons, List.drop_zero]
    repeat (go_big_quiet_step (first | (go_at_call 14; exact Calls.qa (CheckBits_c _ _ _)) | (go_at_call 65; exact Calls.qs (errorIf_c _ _ _))))
    refine wpQuiet_nil ?_
    intro x1
    have zx1_0 : w.heap.size < x1.val.heap.size := by have := x1.size; (try simp at this); omega
    have zx1_1 : w.heap.size + 1 < x1.val.heap.size := by have := x1.size; (try simp at this); omega
    have zx1_2 : w.heap.size + 1 + 1 < x1.val.heap.size := by have := x1.size; (try simp at this); omega
    go_wp2_with fail
    refine (firstError3 _ _ _ _ _ _ _ (by exact heap_alloc_at (by simp [go_sem]))).mono ?_
    rw [h9'.out]
    rintro e w' ⟨rfl, rfl⟩
    go_wp2
    refine bodyPost_ret (by simp [results, Try.results25, go_sem]; try rfl) rfl ?_
    exact ⟨rfl, Below.aft (by (repeat' (first | (with_reducible exact Below.refl _ _) | (with_reducible refine Below.alloc ?_ ?_ _) | (with_reducible refine Below.drew ?_) | (with_reducible refine Aft.below _ ?_ ?_) | (with_reducible refine Below.setCell_new ?_ ?_ _ _) | (with_reducible exact Nat.le_refl _) | (with_reducible refine Aft.le _ ?_) | (with_reducible refine le_alloc ?_) | (with_reducible refine le_drew ?_) | (with_reducible refine le_setCell ?_) | omega)))⟩
  · have hk' : decide (k < 0) = false := by simpa using hk
    have hb' : decide (b < 0) = false := by simpa using hb
    have h9' : Hid (firstE [bErr wd v, eIf (decide (5 ≤ k)) 15, eIf (decide (16 < b)) 2] = er) := by
      have h := h9.out; unfold shErr at h; rw [hk', hb'] at h; exact h
    clear h9
    go_enter Try.func25, Try.ntmps25
    go_wp2_with fail
    refine wp_region_aft_tail 16 (by kernel_rfl) (by kernel_rfl) ?_
    simp only [List.take_succ_cons, List.take_zero, List.drop_succ_cons, List.drop_zero]
    repeat (go_big_quiet_step (first | (go_at_call 14; exact Calls.qa (CheckBits_c _ _ _)) | (go_at_call 65; exact Calls.qs (errorIf_c _ _ _))))
    refine wpQuiet_nil ?_
    intro x1
    have zx1_0 : w.heap.size < x1.val.heap.size := by have := x1.size; (try simp at this); omega
    have zx1_1 : w.heap.size + 1 < x1.val.heap.size := by have := x1.size; (try simp at this); omega
    have zx1_2 : w.heap.size + 1 + 1 < x1.val.heap.size := by have := x1.size; (try simp at this); omega
    go_wp2_with fail
    refine (firstError3 _ _ _ _ _ _ _ (by exact heap_alloc_at (by simp [go_sem]))).mono ?_
    rw [h9'.out]
    rintro e w' ⟨rfl, rfl⟩
    go_wp2
    refine bodyPost_ret (by simp [results, Try.results25, go_sem]; try rfl) rfl ?_
    exact ⟨rfl, Below.aft (by (repeat' (first | (with_reducible exact Below.refl _ _) | (with_reducible refine Below.alloc ?_ ?_ _) | (with_reducible refine Below.drew ?_) | (with_reducible refine Aft.below _ ?_ ?_) | (with_reducible refine Below.setCell_new ?_ ?_ _ _) | (with_reducible exact Nat.le_refl _) | (with_reducible refine Aft.le _ ?_) | (with_reducible refine le_alloc ?_) | (with_reducible refine le_drew ?_) | (with_reducible refine le_setCell ?_) | omega)))⟩


theorem shErr_win (wd v k b : Int) : shErr wd v k b = if bErr wd v = 0 then (if win k 0 4 then (if win b 0 16 then 0 else 2) else 15) else bErr wd v := by
  have e1 : (decide (k < 0) || decide (5 ≤ k)) = !(win k 0 4) := by
    unfold win; by_cases h1 : k < 0 <;> by_cases h2 : 5 ≤ k <;> simp [h1, h2] <;> omega
  have e2 : (decide (b < 0) || decide (16 < b)) = !(win b 0 16) := by
    unfold win; by_cases h1 : b < 0 <;> by_cases h2 : 16 < b <;> simp [h1, h2] <;> omega
  unfold shErr
  rw [e1, e2]
  by_cases h : bErr wd v = 0
  · cases win k 0 4 <;> cases win b 0 16 <;> simp [firstE, eIf, h]
  · simp [firstE, h]
theorem shErr_ok {wd v k b : Int} : shErr wd v k b = 0 ↔ bErr wd v = 0 ∧ 0 ≤ k ∧ k ≤ 4 ∧ 0 ≤ b ∧ b ≤ 16 := by
  rw [shErr_win]
  by_cases h : bErr wd v = 0
  · cases hk : win k 0 4 <;> cases hb : win b 0 16 <;> simp [win] at hk hb <;> simp [h] <;> omega
  · simp [h]

set_option maxHeartbeats 400000 in
theorem ShiftErr_c (wd v k b : Int) (w : World) :
    Calls Try.prog 26 #[.agg #[.int .i64 wd, .int .i64 v], .int .i64 k, .int .i64 b] w fun e w' => e = .returned (.int .i64 (shErr wd v k b)) ∧ ∃ x : Aft w, w' = x.val := by
  have he := Lib.hid (shErr_win wd v k b)
  by_cases h : bErr wd v = 0
  · have H := Lib.hid h
    clear h
    cases hk : win k 0 4 <;> cases hb : win b 0 16
    all_goals
      go_enter Try.func26, Try.ntmps26
      go_wp2_with fail
      refine (BitsErr_c wd v _).mono ?_
      rw [H.out]
      rintro e w' ⟨rfl, x, rfl⟩
      go_wp2_with (first | (go_at_call 38; refine (Within_c _ _ _ _).mono ?_; rintro e w' ⟨rfl, rfl⟩))
      go_ret
      exact ⟨retI (by rw [he.out, if_pos H.out, hk]; (try rw [hb]); rfl), Below.aft (by (repeat' (first | (with_reducible exact Below.refl _ _) | (with_reducible refine Below.alloc ?_ ?_ _) | (with_reducible refine Below.drew ?_) | (with_reducible refine Aft.below _ ?_ ?_) | (with_reducible refine Below.setCell_new ?_ ?_ _ _) | (with_reducible exact Nat.le_refl _) | (with_reducible refine Aft.le _ ?_) | (with_reducible refine le_alloc ?_) | (with_reducible refine le_drew ?_) | (with_reducible refine le_setCell ?_) | omega)))⟩
  · have h' : (bErr wd v == 0) = false := by simpa using h
    have h'' : (bErr wd v != 0) = true := by simpa using h
    have H := Lib.hid h
    clear h
    go_enter Try.func26, Try.ntmps26
    go_wp2_with fail
    refine (BitsErr_c wd v _).mono ?_
    rintro e w' ⟨rfl, x, rfl⟩
    go_wp2
    go_ret
    exact ⟨retI (by rw [he.out, if_neg H.out]), Below.aft (by (repeat' (first | (with_reducible exact Below.refl _ _) | (with_reducible refine Below.alloc ?_ ?_ _) | (with_reducible refine Below.drew ?_) | (with_reducible refine Aft.below _ ?_ ?_) | (with_reducible refine Below.setCell_new ?_ ?_ _ _) | (with_reducible exact Nat.le_refl _) | (with_reducible refine Aft.le _ ?_) | (with_reducible refine le_alloc ?_) | (with_reducible refine le_drew ?_) | (with_reducible refine le_setCell ?_) | omega)))⟩

end Go.Proofs.Ytlplphigjejahaa
