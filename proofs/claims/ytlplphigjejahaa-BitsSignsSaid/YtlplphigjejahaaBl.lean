/-
  The walk of the law BitsSigns.
-/
import Derived.Test.YtlplphigjejahaaBk
namespace Go.Proofs.Ytlplphigjejahaa
open Go.RowKit Go.BigFrame

set_option maxRecDepth 20000 in
set_option maxHeartbeats 1600000 in
theorem BitsSigns_00 (hawake : ∀ w, Calls Try.prog 11 #[] w fun e w' => e = .returned (.bool true) ∧ ∃ x : Aft w, w' = x.val) (aw av n wd  : Int) (w : World) (h1 : Hid (fsErr n wd = 0)) (g1 : 1 ≤ wd) (g2 : wd ≤ 16) (h2 : Hid (bErr aw av = 0)) (g3 : 1 ≤ aw) (g4 : aw ≤ 16) (g5 : 0 ≤ av) (g6 : av < pw aw) :
    Calls Try.prog 10 #[.agg #[.int .i64 aw, .int .i64 av], .int .i64 n, .int .i64 wd] w fun e w' => e = .returned (.bool true) ∧ ∃ x : Aft w, w' = x.val := by
  have hp := pw_bd (n := wd) (by omega) g2
  have hmb : Hid (md (sg aw av) (pw aw) = av) := Lib.hid (md_sg g3 g5 g6)
  have hfb : Hid (fsErr (sg aw av) aw = 0) := Lib.hid (fsErr_back g3 g4 g5 g6)
  go_enter Try.func10, Try.ntmps10
  go_wp2_with fail
  refine (hawake _).mono ?_
  rintro e w' ⟨rfl, x1, rfl⟩
  have zx1_0 : w.heap.size < x1.val.heap.size := by have := x1.size; (try simp at this); omega
  go_wp2_with fail
  refine (SignedOf_c aw av _ g3 g4 g5 g6 h2).mono ?_
  rintro e w' ⟨rfl, x2, rfl⟩
  have zx2_0 : w.heap.size < x2.val.heap.size := by have := x2.size; (try simp at this); omega
  go_wp2_with fail
  refine (FromSigned_c n wd _ h1).mono ?_
  rintro e w' ⟨rfl, x3, rfl⟩
  have zx3_0 : w.heap.size < x3.val.heap.size := by have := x3.size; (try simp at this); omega
  go_wp2_with fail
  refine (SignedErr_c n wd _).mono ?_
  rw [h1.out]
  rintro e w' ⟨rfl, rfl⟩
  go_wp2_with fail
  refine wp_region_aft (by kernel_rfl) (by kernel_rfl) ?_
  repeat (go_big_quiet_step (first | (go_at_call 20; exact Calls.qs (Power_c _ (by omega) (by omega) _)) | (go_at_call 53; exact Calls.qs (Mod_c _ _ (by omega) (by omega) _)) | (go_at_call 19; exact Calls.qa (of_c _ _ _))))
  refine wpQuiet_nil ?_
  intro x4
  have zx4_0 : w.heap.size < x4.val.heap.size := by have := x4.size; (try simp at this); omega
  have zx4_1 : x3.val.heap.size < x4.val.heap.size := by have := x4.size; (try simp at this); omega
  go_wp2_with fail
  refine (BitsErr_c aw av _).mono ?_
  rw [h2.out]
  rintro e w' ⟨rfl, x5, rfl⟩
  have zx5_0 : w.heap.size < x5.val.heap.size := by have := x5.size; (try simp at this); omega
  have zx5_1 : x3.val.heap.size < x5.val.heap.size := by have := x5.size; (try simp at this); omega
  go_wp2_with fail
  refine (Signed_c av aw g3 g4 g5 g6 _).mono ?_
  rintro e w' ⟨rfl, rfl⟩
  go_wp2_with fail
  refine (FromSigned_c (sg aw av) aw _ hfb).mono ?_
  rw [hmb.out]
  rintro e w' ⟨rfl, x6, rfl⟩
  have zx6_0 : w.heap.size < x6.val.heap.size := by have := x6.size; (try simp at this); omega
  have zx6_1 : x3.val.heap.size < x6.val.heap.size := by have := x6.size; (try simp at this); omega
  go_wp2
  go_ret
  exact ⟨rfl, Below.aft (by (repeat' (first | (with_reducible exact Below.refl _ _) | (with_reducible refine Below.alloc ?_ ?_ _) | (with_reducible refine Below.drew ?_) | (with_reducible refine Aft.below _ ?_ ?_) | (with_reducible refine Below.setCell_new ?_ ?_ _ _) | (with_reducible exact Nat.le_refl _) | (with_reducible refine Aft.le _ ?_) | (with_reducible refine le_alloc ?_) | (with_reducible refine le_drew ?_) | (with_reducible refine le_setCell ?_) | omega)))⟩

set_option maxRecDepth 20000 in
set_option maxHeartbeats 1600000 in
theorem BitsSigns_01 (hawake : ∀ w, Calls Try.prog 11 #[] w fun e w' => e = .returned (.bool true) ∧ ∃ x : Aft w, w' = x.val) (aw av n wd  e2 : Int) (w : World) (h1 : Hid (fsErr n wd = 0)) (g1 : 1 ≤ wd) (g2 : wd ≤ 16) (hn2 : e2 ≠ 0) (h2 : Hid (bErr aw av = e2)) :
    Calls Try.prog 10 #[.agg #[.int .i64 aw, .int .i64 av], .int .i64 n, .int .i64 wd] w fun e w' => e = .returned (.bool true) ∧ ∃ x : Aft w, w' = x.val := by
  have hp := pw_bd (n := wd) (by omega) g2
  have Hn_e2 := Lib.hid hn2
  have hn'_e2 : (e2 == 0) = false := by simpa using hn2
  have hb_e2 : (e2 != 0) = true := by simpa using hn2
  clear hn2
  go_enter Try.func10, Try.ntmps10
  go_wp2_with fail
  refine (hawake _).mono ?_
  rintro e w' ⟨rfl, x1, rfl⟩
  have zx1_0 : w.heap.size < x1.val.heap.size := by have := x1.size; (try simp at this); omega
  go_wp2_with fail
  refine (SignedOf_bad aw av e2 _ Hn_e2.out h2).mono ?_
  rintro e w' ⟨rfl, x2, rfl⟩
  have zx2_0 : w.heap.size < x2.val.heap.size := by have := x2.size; (try simp at this); omega
  go_wp2_with fail
  refine (FromSigned_c n wd _ h1).mono ?_
  rintro e w' ⟨rfl, x3, rfl⟩
  have zx3_0 : w.heap.size < x3.val.heap.size := by have := x3.size; (try simp at this); omega
  go_wp2_with fail
  refine (SignedErr_c n wd _).mono ?_
  rw [h1.out]
  rintro e w' ⟨rfl, rfl⟩
  go_wp2_with fail
  refine wp_region_aft (by kernel_rfl) (by kernel_rfl) ?_
  repeat (go_big_quiet_step (first | (go_at_call 20; exact Calls.qs (Power_c _ (by omega) (by omega) _)) | (go_at_call 53; exact Calls.qs (Mod_c _ _ (by omega) (by omega) _)) | (go_at_call 19; exact Calls.qa (of_c _ _ _))))
  refine wpQuiet_nil ?_
  intro x4
  have zx4_0 : w.heap.size < x4.val.heap.size := by have := x4.size; (try simp at this); omega
  have zx4_1 : x3.val.heap.size < x4.val.heap.size := by have := x4.size; (try simp at this); omega
  go_wp2_with fail
  refine (BitsErr_c aw av _).mono ?_
  rw [h2.out]
  rintro e w' ⟨rfl, x5, rfl⟩
  have zx5_0 : w.heap.size < x5.val.heap.size := by have := x5.size; (try simp at this); omega
  have zx5_1 : x3.val.heap.size < x5.val.heap.size := by have := x5.size; (try simp at this); omega
  go_wp2
  go_ret
  exact ⟨rfl, Below.aft (by (repeat' (first | (with_reducible exact Below.refl _ _) | (with_reducible refine Below.alloc ?_ ?_ _) | (with_reducible refine Below.drew ?_) | (with_reducible refine Aft.below _ ?_ ?_) | (with_reducible refine Below.setCell_new ?_ ?_ _ _) | (with_reducible exact Nat.le_refl _) | (with_reducible refine Aft.le _ ?_) | (with_reducible refine le_alloc ?_) | (with_reducible refine le_drew ?_) | (with_reducible refine le_setCell ?_) | omega)))⟩

set_option maxRecDepth 20000 in
set_option maxHeartbeats 1600000 in
theorem BitsSigns_10 (hawake : ∀ w, Calls Try.prog 11 #[] w fun e w' => e = .returned (.bool true) ∧ ∃ x : Aft w, w' = x.val) (aw av n wd  e1 : Int) (w : World) (hn1 : e1 ≠ 0) (h1 : Hid (fsErr n wd = e1)) (h2 : Hid (bErr aw av = 0)) (g3 : 1 ≤ aw) (g4 : aw ≤ 16) (g5 : 0 ≤ av) (g6 : av < pw aw) :
    Calls Try.prog 10 #[.agg #[.int .i64 aw, .int .i64 av], .int .i64 n, .int .i64 wd] w fun e w' => e = .returned (.bool true) ∧ ∃ x : Aft w, w' = x.val := by
  have Hn_e1 := Lib.hid hn1
  have hn'_e1 : (e1 == 0) = false := by simpa using hn1
  have hb_e1 : (e1 != 0) = true := by simpa using hn1
  clear hn1
  have hmb : Hid (md (sg aw av) (pw aw) = av) := Lib.hid (md_sg g3 g5 g6)
  have hfb : Hid (fsErr (sg aw av) aw = 0) := Lib.hid (fsErr_back g3 g4 g5 g6)
  go_enter Try.func10, Try.ntmps10
  go_wp2_with fail
  refine (hawake _).mono ?_
  rintro e w' ⟨rfl, x1, rfl⟩
  have zx1_0 : w.heap.size < x1.val.heap.size := by have := x1.size; (try simp at this); omega
  go_wp2_with fail
  refine (SignedOf_c aw av _ g3 g4 g5 g6 h2).mono ?_
  rintro e w' ⟨rfl, x2, rfl⟩
  have zx2_0 : w.heap.size < x2.val.heap.size := by have := x2.size; (try simp at this); omega
  go_wp2_with fail
  refine (FromSigned_bad n wd e1 _ Hn_e1.out h1).mono ?_
  rintro e w' ⟨rfl, x3, rfl⟩
  have zx3_0 : w.heap.size < x3.val.heap.size := by have := x3.size; (try simp at this); omega
  go_wp2_with fail
  refine (SignedErr_c n wd _).mono ?_
  rw [h1.out]
  rintro e w' ⟨rfl, rfl⟩
  go_wp2_with fail
  refine wp_region_aft (by kernel_rfl) (by kernel_rfl) ?_
  repeat (go_big_quiet_step (fail))
  refine wpQuiet_nil ?_
  intro x4
  have zx4_0 : w.heap.size < x4.val.heap.size := by have := x4.size; (try simp at this); omega
  have zx4_1 : x3.val.heap.size < x4.val.heap.size := by have := x4.size; (try simp at this); omega
  go_wp2_with fail
  refine (BitsErr_c aw av _).mono ?_
  rw [h2.out]
  rintro e w' ⟨rfl, x5, rfl⟩
  have zx5_0 : w.heap.size < x5.val.heap.size := by have := x5.size; (try simp at this); omega
  have zx5_1 : x3.val.heap.size < x5.val.heap.size := by have := x5.size; (try simp at this); omega
  go_wp2_with fail
  refine (Signed_c av aw g3 g4 g5 g6 _).mono ?_
  rintro e w' ⟨rfl, rfl⟩
  go_wp2_with fail
  refine (FromSigned_c (sg aw av) aw _ hfb).mono ?_
  rw [hmb.out]
  rintro e w' ⟨rfl, x6, rfl⟩
  have zx6_0 : w.heap.size < x6.val.heap.size := by have := x6.size; (try simp at this); omega
  have zx6_1 : x3.val.heap.size < x6.val.heap.size := by have := x6.size; (try simp at this); omega
  go_wp2
  go_ret
  exact ⟨rfl, Below.aft (by (repeat' (first | (with_reducible exact Below.refl _ _) | (with_reducible refine Below.alloc ?_ ?_ _) | (with_reducible refine Below.drew ?_) | (with_reducible refine Aft.below _ ?_ ?_) | (with_reducible refine Below.setCell_new ?_ ?_ _ _) | (with_reducible exact Nat.le_refl _) | (with_reducible refine Aft.le _ ?_) | (with_reducible refine le_alloc ?_) | (with_reducible refine le_drew ?_) | (with_reducible refine le_setCell ?_) | omega)))⟩

set_option maxRecDepth 20000 in
set_option maxHeartbeats 1600000 in
theorem BitsSigns_11 (hawake : ∀ w, Calls Try.prog 11 #[] w fun e w' => e = .returned (.bool true) ∧ ∃ x : Aft w, w' = x.val) (aw av n wd  e1 e2 : Int) (w : World) (hn1 : e1 ≠ 0) (h1 : Hid (fsErr n wd = e1)) (hn2 : e2 ≠ 0) (h2 : Hid (bErr aw av = e2)) :
    Calls Try.prog 10 #[.agg #[.int .i64 aw, .int .i64 av], .int .i64 n, .int .i64 wd] w fun e w' => e = .returned (.bool true) ∧ ∃ x : Aft w, w' = x.val := by
  have Hn_e1 := Lib.hid hn1
  have hn'_e1 : (e1 == 0) = false := by simpa using hn1
  have hb_e1 : (e1 != 0) = true := by simpa using hn1
  clear hn1
  have Hn_e2 := Lib.hid hn2
  have hn'_e2 : (e2 == 0) = false := by simpa using hn2
  have hb_e2 : (e2 != 0) = true := by simpa using hn2
  clear hn2
  go_enter Try.func10, Try.ntmps10
  go_wp2_with fail
  refine (hawake _).mono ?_
  rintro e w' ⟨rfl, x1, rfl⟩
  have zx1_0 : w.heap.size < x1.val.heap.size := by have := x1.size; (try simp at this); omega
  go_wp2_with fail
  refine (SignedOf_bad aw av e2 _ Hn_e2.out h2).mono ?_
  rintro e w' ⟨rfl, x2, rfl⟩
  have zx2_0 : w.heap.size < x2.val.heap.size := by have := x2.size; (try simp at this); omega
  go_wp2_with fail
  refine (FromSigned_bad n wd e1 _ Hn_e1.out h1).mono ?_
  rintro e w' ⟨rfl, x3, rfl⟩
  have zx3_0 : w.heap.size < x3.val.heap.size := by have := x3.size; (try simp at this); omega
  go_wp2_with fail
  refine (SignedErr_c n wd _).mono ?_
  rw [h1.out]
  rintro e w' ⟨rfl, rfl⟩
  go_wp2_with fail
  refine wp_region_aft (by kernel_rfl) (by kernel_rfl) ?_
  repeat (go_big_quiet_step (fail))
  refine wpQuiet_nil ?_
  intro x4
  have zx4_0 : w.heap.size < x4.val.heap.size := by have := x4.size; (try simp at this); omega
  have zx4_1 : x3.val.heap.size < x4.val.heap.size := by have := x4.size; (try simp at this); omega
  go_wp2_with fail
  refine (BitsErr_c aw av _).mono ?_
  rw [h2.out]
  rintro e w' ⟨rfl, x5, rfl⟩
  have zx5_0 : w.heap.size < x5.val.heap.size := by have := x5.size; (try simp at this); omega
  have zx5_1 : x3.val.heap.size < x5.val.heap.size := by have := x5.size; (try simp at this); omega
  go_wp2
  go_ret
  exact ⟨rfl, Below.aft (by (repeat' (first | (with_reducible exact Below.refl _ _) | (with_reducible refine Below.alloc ?_ ?_ _) | (with_reducible refine Below.drew ?_) | (with_reducible refine Aft.below _ ?_ ?_) | (with_reducible refine Below.setCell_new ?_ ?_ _ _) | (with_reducible exact Nat.le_refl _) | (with_reducible refine Aft.le _ ?_) | (with_reducible refine le_alloc ?_) | (with_reducible refine le_drew ?_) | (with_reducible refine le_setCell ?_) | omega)))⟩


theorem BitsSigns_all (hawake : ∀ w, Calls Try.prog 11 #[] w fun e w' => e = .returned (.bool true) ∧ ∃ x : Aft w, w' = x.val) (aw av n wd : Int) (w : World) :
    Calls Try.prog 10 #[.agg #[.int .i64 aw, .int .i64 av], .int .i64 n, .int .i64 wd] w fun e w' => e = .returned (.bool true) ∧ ∃ x : Aft w, w' = x.val := by
  have hw : fsErr n wd = 0 → 1 ≤ wd ∧ wd ≤ 16 := by
    intro h
    cases hw : isW wd
    · exfalso; rw [fsErr, hw, if_neg (by decide)] at h; exact absurd h (by decide)
    · exact isW_iff.1 hw
  by_cases h1 : fsErr n wd = 0 <;> by_cases h2 : bErr aw av = 0
  · obtain ⟨g1, g2⟩ := hw h1
    obtain ⟨g3, g4, g5, g6⟩ := bErr_ok.1 h2
    exact BitsSigns_00 hawake aw av n wd w h1 g1 g2 h2 g3 g4 g5 g6
  · obtain ⟨g1, g2⟩ := hw h1
    exact BitsSigns_01 hawake aw av n wd _ w h1 g1 g2 h2 rfl
  · obtain ⟨g3, g4, g5, g6⟩ := bErr_ok.1 h2
    exact BitsSigns_10 hawake aw av n wd _ w h1 rfl h2 g3 g4 g5 g6
  · exact BitsSigns_11 hawake aw av n wd _ _ w h1 rfl h2 rfl

end Go.Proofs.Ytlplphigjejahaa
