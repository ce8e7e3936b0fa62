/-
  The walk of the law BitsSums.
-/
import Derived.Test.YtlplphigjejahaaBb
import Derived.Test.YtlplphigjejahaaBc
set_option linter.unusedSimpArgs false
set_option linter.unusedVariables false
namespace Go.Proofs.Ytlplphigjejahaa
open Go.RowKit Go.BigFrame

set_option maxRecDepth 20000 in
set_option maxHeartbeats 1600000 in
theorem BitsSums_no (hawake : ∀ w, Calls Try.prog 11 #[] w fun e w' => e = .returned (.bool true) ∧ ∃ x : Aft w, w' = x.val) (aw av bw bv c er : Int) (w : World) (hn : er ≠ 0) (h9 : Hid (sumErr aw av bw bv c = er)) :
    Calls Try.prog 3 #[.agg #[.int .i64 aw, .int .i64 av], .agg #[.int .i64 bw, .int .i64 bv], .int .i64 c] w fun e w' => e = .returned (.bool true) ∧ ∃ x : Aft w, w' = x.val := by
  have Hn := Lib.hid hn
  have hn' : (er == 0) = false := by simpa using hn
  clear hn

  go_enter Try.func3, Try.ntmps3
  go_wp2_with fail
  refine (hawake _).mono ?_
  rintro e w' ⟨rfl, x1, rfl⟩
  have zx1_0 : w.heap.size < x1.val.heap.size := by have := x1.size; (try simp at this); omega
  have zx1_1 : w.heap.size + 1 < x1.val.heap.size := by have := x1.size; (try simp at this); omega
  go_wp2_with fail
  refine (AddWith_bad aw av bw bv c er _ Hn.out h9).mono ?_
  rintro e w' ⟨rfl, x2, rfl⟩
  have zx2_0 : w.heap.size < x2.val.heap.size := by have := x2.size; (try simp at this); omega
  have zx2_1 : w.heap.size + 1 < x2.val.heap.size := by have := x2.size; (try simp at this); omega
  go_wp2_with fail
  refine (SubWith_bad aw av bw bv c er _ Hn.out h9).mono ?_
  rintro e w' ⟨rfl, x3, rfl⟩
  have zx3_0 : w.heap.size < x3.val.heap.size := by have := x3.size; (try simp at this); omega
  have zx3_1 : w.heap.size + 1 < x3.val.heap.size := by have := x3.size; (try simp at this); omega
  have zx3_2 : x2.val.heap.size < x3.val.heap.size := by have := x3.size; (try simp at this); omega
  go_wp2_with fail
  refine wp_region_aft (by kernel_rfl) (by kernel_rfl) ?_
  repeat (go_big_quiet_step (first | (go_at_call 14; exact Calls.qa (CheckBits_c _ _ _)) | (go_at_call 15; exact Calls.qa (BitsErr_c _ _ _))))
  refine wpQuiet_nil ?_
  intro x4
  have zx4_0 : w.heap.size < x4.val.heap.size := by have := x4.size; (try simp at this); omega
  have zx4_1 : w.heap.size + 1 < x4.val.heap.size := by have := x4.size; (try simp at this); omega
  have zx4_2 : x2.val.heap.size < x4.val.heap.size := by have := x4.size; (try simp at this); omega
  have zx4_3 : x3.val.heap.size < x4.val.heap.size := by have := x4.size; (try simp at this); omega
  go_wp2_with fail
  refine (CarryErr_c aw av bw bv c _).mono ?_
  rw [h9.out]
  rintro e w' ⟨rfl, x5, rfl⟩
  have zx5_0 : w.heap.size < x5.val.heap.size := by have := x5.size; (try simp at this); omega
  have zx5_1 : w.heap.size + 1 < x5.val.heap.size := by have := x5.size; (try simp at this); omega
  have zx5_2 : x2.val.heap.size < x5.val.heap.size := by have := x5.size; (try simp at this); omega
  have zx5_3 : x3.val.heap.size < x5.val.heap.size := by have := x5.size; (try simp at this); omega
  go_wp2
  go_ret
  exact ⟨rfl, Below.aft (by (repeat' (first | (with_reducible exact Below.refl _ _) | (with_reducible refine Below.alloc ?_ ?_ _) | (with_reducible refine Below.drew ?_) | (with_reducible refine Aft.below _ ?_ ?_) | (with_reducible refine Below.setCell_new ?_ ?_ _ _) | (with_reducible exact Nat.le_refl _) | (with_reducible refine Aft.le _ ?_) | (with_reducible refine le_alloc ?_) | (with_reducible refine le_drew ?_) | (with_reducible refine le_setCell ?_) | omega)))⟩

set_option maxRecDepth 20000 in
set_option maxHeartbeats 1600000 in
theorem BitsSums_yes (hawake : ∀ w, Calls Try.prog 11 #[] w fun e w' => e = .returned (.bool true) ∧ ∃ x : Aft w, w' = x.val) (wd av bv c : Int) (w : World) (h1 : 1 ≤ wd) (h2 : wd ≤ 16) (h3 : 0 ≤ av) (h4 : av < pw wd) (h5 : 0 ≤ bv) (h6 : bv < pw wd) (h7 : 0 ≤ c) (h8 : c ≤ 1) (h9 : Hid (sumErr wd av wd bv c = 0)) :
    Calls Try.prog 3 #[.agg #[.int .i64 wd, .int .i64 av], .agg #[.int .i64 wd, .int .i64 bv], .int .i64 c] w fun e w' => e = .returned (.bool true) ∧ ∃ x : Aft w, w' = x.val := by
  go_enter Try.func3, Try.ntmps3
  go_wp2_with fail
  refine (hawake _).mono ?_
  rintro e w' ⟨rfl, x1, rfl⟩
  have zx1_0 : w.heap.size < x1.val.heap.size := by have := x1.size; (try simp at this); omega
  have zx1_1 : w.heap.size + 1 < x1.val.heap.size := by have := x1.size; (try simp at this); omega
  go_wp2_with fail
  refine (AddWith_c wd av bv c _ h1 h2 h3 h4 h5 h6 h7 h8 h9).mono ?_
  rintro e w' ⟨rfl, x2, rfl⟩
  have zx2_0 : w.heap.size < x2.val.heap.size := by have := x2.size; (try simp at this); omega
  have zx2_1 : w.heap.size + 1 < x2.val.heap.size := by have := x2.size; (try simp at this); omega
  go_wp2_with fail
  refine (SubWith_c wd av bv c _ h1 h2 h3 h4 h5 h6 h7 h8 h9).mono ?_
  rintro e w' ⟨rfl, x3, rfl⟩
  have zx3_0 : w.heap.size < x3.val.heap.size := by have := x3.size; (try simp at this); omega
  have zx3_1 : w.heap.size + 1 < x3.val.heap.size := by have := x3.size; (try simp at this); omega
  have zx3_2 : x2.val.heap.size < x3.val.heap.size := by have := x3.size; (try simp at this); omega
  go_wp2_with fail
  refine wp_region_aft (by kernel_rfl) (by kernel_rfl) ?_
  repeat (go_big_quiet_step (first | (go_at_call 14; exact Calls.qa (CheckBits_c _ _ _)) | (go_at_call 15; exact Calls.qa (BitsErr_c _ _ _))))
  refine wpQuiet_nil ?_
  intro x4
  have zx4_0 : w.heap.size < x4.val.heap.size := by have := x4.size; (try simp at this); omega
  have zx4_1 : w.heap.size + 1 < x4.val.heap.size := by have := x4.size; (try simp at this); omega
  have zx4_2 : x2.val.heap.size < x4.val.heap.size := by have := x4.size; (try simp at this); omega
  have zx4_3 : x3.val.heap.size < x4.val.heap.size := by have := x4.size; (try simp at this); omega
  go_wp2_with fail
  refine (CarryErr_c wd av wd bv c _).mono ?_
  rw [h9.out]
  rintro e w' ⟨rfl, x5, rfl⟩
  have zx5_0 : w.heap.size < x5.val.heap.size := by have := x5.size; (try simp at this); omega
  have zx5_1 : w.heap.size + 1 < x5.val.heap.size := by have := x5.size; (try simp at this); omega
  have zx5_2 : x2.val.heap.size < x5.val.heap.size := by have := x5.size; (try simp at this); omega
  have zx5_3 : x3.val.heap.size < x5.val.heap.size := by have := x5.size; (try simp at this); omega
  go_wp2_with fail
  refine wp_region_aft (by kernel_rfl) (by kernel_rfl) ?_
  repeat (go_big_quiet_step (first | (go_at_call 17; exact Calls.qa (Add_c wd av bv c h1 h2 h3 h4 h5 h6 h7 h8 _)) | (go_at_call 18; exact Calls.qa (Sub_c wd av bv c h1 h2 h3 h4 h5 h6 h7 h8 _))))
  refine wpQuiet_nil ?_
  intro x6
  have zx6_0 : w.heap.size < x6.val.heap.size := by have := x6.size; (try simp at this); omega
  have zx6_1 : w.heap.size + 1 < x6.val.heap.size := by have := x6.size; (try simp at this); omega
  have zx6_2 : x2.val.heap.size < x6.val.heap.size := by have := x6.size; (try simp at this); omega
  have zx6_3 : x3.val.heap.size < x6.val.heap.size := by have := x6.size; (try simp at this); omega
  go_wp2
  go_ret
  exact ⟨rfl, Below.aft (by (repeat' (first | (with_reducible exact Below.refl _ _) | (with_reducible refine Below.alloc ?_ ?_ _) | (with_reducible refine Below.drew ?_) | (with_reducible refine Aft.below _ ?_ ?_) | (with_reducible refine Below.setCell_new ?_ ?_ _ _) | (with_reducible exact Nat.le_refl _) | (with_reducible refine Aft.le _ ?_) | (with_reducible refine le_alloc ?_) | (with_reducible refine le_drew ?_) | (with_reducible refine le_setCell ?_) | omega)))⟩

theorem BitsSums_all (hawake : ∀ w, Calls Try.prog 11 #[] w fun e w' => e = .returned (.bool true) ∧ ∃ x : Aft w, w' = x.val) (aw av bw bv c : Int) (w : World) :
    Calls Try.prog 3 #[.agg #[.int .i64 aw, .int .i64 av], .agg #[.int .i64 bw, .int .i64 bv], .int .i64 c] w fun e w' => e = .returned (.bool true) ∧ ∃ x : Aft w, w' = x.val := by
  by_cases h : sumErr aw av bw bv c = 0
  · obtain ⟨⟨h1, h2, h3, h4⟩, ⟨h5, h6⟩, rfl, hc⟩ := sumErr_ok.1 h
    exact BitsSums_yes hawake aw av bv c w h1 h2 h3 h4 h5 h6 (by omega) (by omega) h
  · exact BitsSums_no hawake aw av bw bv c _ w h rfl

end Go.Proofs.Ytlplphigjejahaa
