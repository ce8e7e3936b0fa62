/-
  Contracts of the functions of chapter 1 (fourth part: small values, products, signs, numbers in strings).
-/
import Derived.Test.YtlplphigjejahaaDoorBa
import Derived.Test.YtlplphigjejahaaDoorBc
import Derived.Lib.SlBytesConst
set_option linter.unusedSimpArgs false
set_option linter.unusedVariables false
namespace Go.Proofs.YtlplphigjejahaaDoor
open Go.RowKit Go.BigFrame

theorem of_c (wd v : Int) (w : World) :
    Calls Tryd.prog 11 #[.int .i64 wd, .int .i64 v] w fun e w' => e = .returned (.agg #[.int .i64 wd, .int .i64 v]) ∧ ∃ x : Aft w, w' = x.val := by
  go_enter Tryd.func11, Tryd.ntmps11
  go_wp2
  refine bodyPost_ret (by simp [results, Tryd.results11, go_sem]; try rfl) rfl ?_
  exact ⟨rfl, Below.aft (by (repeat' (first | (with_reducible exact Below.refl _ _) | (with_reducible refine Below.alloc ?_ ?_ _) | (with_reducible refine Below.drew ?_) | (with_reducible refine Aft.below _ ?_ ?_) | (with_reducible refine Below.setCell_new ?_ ?_ _ _) | (with_reducible exact Nat.le_refl _) | (with_reducible refine Aft.le _ ?_) | (with_reducible refine le_alloc ?_) | (with_reducible refine le_drew ?_) | (with_reducible refine le_setCell ?_) | omega)))⟩


theorem SignedOf_bad (wd v : Int) (er : Int) (w : World) (hn : er ≠ 0) (h9 : Hid (bErr wd v = er)) :
    Calls Tryd.prog 14 #[.agg #[.int .i64 wd, .int .i64 v]] w fun e w' => e = .returned (.tuple #[.int .i64 0, .int .i64 er]) ∧ ∃ x : Aft w, w' = x.val := by
  have hn' : (er == 0) = false := by simpa using hn
  go_enter Tryd.func14, Tryd.ntmps14
  go_wp2_with fail
  refine (CheckBits_c wd v _).mono ?_
  rw [h9.out]
  rintro e w' ⟨rfl, x, rfl⟩
  go_wp2
  go_ret2
  exact ⟨rfl, Below.aft (by (repeat' (first | (with_reducible exact Below.refl _ _) | (with_reducible refine Below.alloc ?_ ?_ _) | (with_reducible refine Below.drew ?_) | (with_reducible refine Aft.below _ ?_ ?_) | (with_reducible refine Below.setCell_new ?_ ?_ _ _) | (with_reducible exact Nat.le_refl _) | (with_reducible refine Aft.le _ ?_) | (with_reducible refine le_alloc ?_) | (with_reducible refine le_drew ?_) | (with_reducible refine le_setCell ?_) | omega)))⟩

theorem SignedOf_c (wd v : Int) (w : World) (h1 : 1 ≤ wd) (h2 : wd ≤ 16) (h3 : 0 ≤ v) (h4 : v < pw wd) (h9 : Hid (bErr wd v = 0)) :
    Calls Tryd.prog 14 #[.agg #[.int .i64 wd, .int .i64 v]] w fun e w' => e = .returned (.tuple #[.int .i64 (sg wd v), .int .i64 0]) ∧ ∃ x : Aft w, w' = x.val := by
  go_enter Tryd.func14, Tryd.ntmps14
  go_wp2_with fail
  refine (CheckBits_c wd v _).mono ?_
  rw [h9.out]
  rintro e w' ⟨rfl, x, rfl⟩
  go_wp2_with (first | (go_at_call 38; refine (signed_c _ _ (by omega) (by omega) (by omega) (by omega) _).mono ?_; rintro e w' ⟨rfl, x, rfl⟩))
  go_ret2
  exact ⟨rfl, Below.aft (by (repeat' (first | (with_reducible exact Below.refl _ _) | (with_reducible refine Below.alloc ?_ ?_ _) | (with_reducible refine Below.drew ?_) | (with_reducible refine Aft.below _ ?_ ?_) | (with_reducible refine Below.setCell_new ?_ ?_ _ _) | (with_reducible exact Nat.le_refl _) | (with_reducible refine Aft.le _ ?_) | (with_reducible refine le_alloc ?_) | (with_reducible refine le_drew ?_) | (with_reducible refine le_setCell ?_) | omega)))⟩

def mulErr (aw av bw bv : Int) : Int := firstE [bErr aw av, bErr bw bv, eIf (decide (16 < wrap64 (aw + bw))) 8]
theorem mulErr_ok {aw av bw bv : Int} (h : mulErr aw av bw bv = 0) : (1 ≤ aw ∧ 0 ≤ av ∧ av < pw aw) ∧ (1 ≤ bw ∧ 0 ≤ bv ∧ bv < pw bw) ∧ aw + bw ≤ 16 := by
  unfold mulErr at h
  have h1 : bErr aw av = 0 := by
    by_cases h1 : bErr aw av = 0
    · exact h1
    · rw [firstE_cons, if_neg h1] at h; exact h
  rw [firstE_cons, if_pos h1] at h
  have h2 : bErr bw bv = 0 := by
    by_cases h2 : bErr bw bv = 0
    · exact h2
    · rw [firstE_cons, if_neg h2] at h; exact h
  rw [firstE_cons, if_pos h2, firstE_one] at h
  obtain ⟨a1, a2, a3, a4⟩ := bErr_ok.1 h1
  obtain ⟨b1, b2, b3, b4⟩ := bErr_ok.1 h2
  rw [IntWalk.wrap64_in _ ⟨by omega, by omega⟩] at h
  refine ⟨⟨a1, a3, a4⟩, ⟨b1, b3, b4⟩, ?_⟩
  unfold eIf at h
  split at h
  · omega
  · rename_i hc; simpa using hc
theorem mul_bd {aw av bw bv : Int} (h1 : 0 ≤ aw) (h2 : 0 ≤ bw) (hs : aw + bw ≤ 16) (ha : 0 ≤ av) (ha' : av < pw aw) (hb : 0 ≤ bv) (hb' : bv < pw bw) : 0 ≤ av * bv ∧ av * bv ≤ 65535 := by
  have e := pw_add h1 h2
  have hp := pw_bd (n := aw + bw) (by omega) hs
  have p1 := pw_pos aw
  have p2 := pw_pos bw
  refine ⟨Int.mul_nonneg ha hb, ?_⟩
  have : av * bv ≤ (pw aw - 1) * (pw bw - 1) := Int.mul_le_mul (by omega) (by omega) hb (by omega)
  have e2 : (pw aw - 1) * (pw bw - 1) = pw aw * pw bw - pw aw - pw bw + 1 := by
    rw [Int.sub_mul, Int.mul_sub, Int.mul_one, Int.one_mul]; omega
  omega


theorem MulWide_bad (aw av bw bv : Int) (er : Int) (w : World) (hn : er ≠ 0) (h9 : Hid (mulErr aw av bw bv = er)) :
    Calls Tryd.prog 12 #[.agg #[.int .i64 aw, .int .i64 av], .agg #[.int .i64 bw, .int .i64 bv]] w fun e w' => e = .returned (.tuple #[.agg #[.int .i64 0, .int .i64 0], .int .i64 er]) ∧ ∃ x : Aft w, w' = x.val := by
  have hn' : (er == 0) = false := by simpa using hn
  go_enter Tryd.func12, Tryd.ntmps12
  go_wp2_with fail
  refine wp_region_aft_tail 7 (by kernel_rfl) (by kernel_rfl) ?_
  simp only [List.take_succ_cons, List.take_zero, List.drop_succ_cons, List.drop_zero]
  repeat (go_big_quiet_step (first | (go_at_call 19; exact Calls.qs (errorIf_c _ _ _)) | (go_at_call 18; exact Calls.qa (CheckBits_c _ _ _))))
  refine wpQuiet_nil ?_
  intro x1
  have zx1_0 : w.heap.size < x1.val.heap.size := by have := x1.size; (try simp at this); omega
  have zx1_1 : w.heap.size + 1 < x1.val.heap.size := by have := x1.size; (try simp at this); omega
  have zx1_2 : w.heap.size + 1 + 1 < x1.val.heap.size := by have := x1.size; (try simp at this); omega
  go_wp2_with fail
  refine (firstError3 _ _ _ _ _ _ _ (by exact heap_alloc_at (by simp [go_sem]))).mono ?_
  rw [show firstE [bErr aw av, bErr bw bv, eIf (decide (16 < wrap64 (aw + bw))) 8] = er from h9.out]
  rintro e w' ⟨rfl, rfl⟩
  go_wp2
  refine bodyPost_ret (by simp [results, Tryd.results12, go_sem]; try rfl) rfl ?_
  exact ⟨rfl, Below.aft (by (repeat' (first | (with_reducible exact Below.refl _ _) | (with_reducible refine Below.alloc ?_ ?_ _) | (with_reducible refine Below.drew ?_) | (with_reducible refine Aft.below _ ?_ ?_) | (with_reducible refine Below.setCell_new ?_ ?_ _ _) | (with_reducible exact Nat.le_refl _) | (with_reducible refine Aft.le _ ?_) | (with_reducible refine le_alloc ?_) | (with_reducible refine le_drew ?_) | (with_reducible refine le_setCell ?_) | omega)))⟩

theorem MulWide_c (aw av bw bv : Int) (w : World) (h9 : Hid (mulErr aw av bw bv = 0)) :
    Calls Tryd.prog 12 #[.agg #[.int .i64 aw, .int .i64 av], .agg #[.int .i64 bw, .int .i64 bv]] w fun e w' => e = .returned (.tuple #[.agg #[.int .i64 (aw + bw), .int .i64 (av * bv)], .int .i64 0]) ∧ ∃ x : Aft w, w' = x.val := by
  obtain ⟨⟨a1, a2, a3⟩, ⟨b1, b2, b3⟩, hs⟩ := mulErr_ok h9
  have hm := mul_bd (by omega) (by omega) hs a2 a3 b2 b3
  have hw := IntWalk.wrap64_in (aw + bw) ⟨by omega, by omega⟩
  have h9' : Hid (firstE [bErr aw av, bErr bw bv, eIf (decide (16 < aw + bw)) 8] = 0) := by
    have h := h9.out; unfold mulErr at h; rw [hw] at h; exact h
  clear hw
  go_enter Tryd.func12, Tryd.ntmps12
  go_wp2_with fail
  refine wp_region_aft_tail 7 (by kernel_rfl) (by kernel_rfl) ?_
  simp only [List.take_succ_cons, List.take_zero, List.drop_succ_cons, List.drop_zero]
  repeat (go_big_quiet_step (first | (go_at_call 19; exact Calls.qs (errorIf_c _ _ _)) | (go_at_call 18; exact Calls.qa (CheckBits_c _ _ _))))
  refine wpQuiet_nil ?_
  intro x1
  have zx1_0 : w.heap.size < x1.val.heap.size := by have := x1.size; (try simp at this); omega
  have zx1_1 : w.heap.size + 1 < x1.val.heap.size := by have := x1.size; (try simp at this); omega
  have zx1_2 : w.heap.size + 1 + 1 < x1.val.heap.size := by have := x1.size; (try simp at this); omega
  go_wp2_with fail
  refine (firstError3 _ _ _ _ _ _ _ (by exact heap_alloc_at (by simp [go_sem]))).mono ?_
  rw [h9'.out]
  rintro e w' ⟨rfl, rfl⟩
  go_wp2
  refine bodyPost_ret (by simp [results, Tryd.results12, go_sem]; try rfl) rfl ?_
  exact ⟨rfl, Below.aft (by (repeat' (first | (with_reducible exact Below.refl _ _) | (with_reducible refine Below.alloc ?_ ?_ _) | (with_reducible refine Below.drew ?_) | (with_reducible refine Aft.below _ ?_ ?_) | (with_reducible refine Below.setCell_new ?_ ?_ _ _) | (with_reducible exact Nat.le_refl _) | (with_reducible refine Aft.le _ ?_) | (with_reducible refine le_alloc ?_) | (with_reducible refine le_drew ?_) | (with_reducible refine le_setCell ?_) | omega)))⟩

def digI (c : Int) : Int := if 48 ≤ c ∧ c ≤ 57 then c - 48 else if 97 ≤ c ∧ c ≤ 102 then c - 87 else if 65 ≤ c ∧ c ≤ 70 then c - 55 else -1
theorem digitOf_c (c : Int) (h0 : 0 ≤ c) (h1 : c ≤ 255) (w : World) :
    Calls Tryd.prog 78 #[.int .u8 c] w fun e w' => e = .returned (.int .i64 (digI c)) ∧ w = w' := by
  unfold digI
  by_cases a1 : 48 ≤ c <;> by_cases a2 : c ≤ 57 <;> by_cases b1 : 97 ≤ c <;> by_cases b2 : c ≤ 102 <;> by_cases c1 : 65 ≤ c <;> by_cases c2 : c ≤ 70 <;> first | omega | skip
  all_goals
    go_enter Tryd.func78, Tryd.ntmps78
    go_wp2
    go_ret
    refine ⟨retI ?_, rfl⟩
    first | omega | (rw [if_pos ⟨by assumption, by assumption⟩]; done) | (simp [*]; done) | (simp [*]; omega)

end Go.Proofs.YtlplphigjejahaaDoor
