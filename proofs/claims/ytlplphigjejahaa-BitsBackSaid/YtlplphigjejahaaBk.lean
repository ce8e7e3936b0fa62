/-
  Contracts of the functions of chapter 1 (tenth part: quotients, numbers as two's complements, their errors).
-/
import Derived.Test.YtlplphigjejahaaBa
import Derived.Test.YtlplphigjejahaaBb
import Derived.Test.YtlplphigjejahaaBc
import Derived.Test.YtlplphigjejahaaBe
set_option linter.unusedSimpArgs false
set_option linter.unusedVariables false
namespace Go.Proofs.Ytlplphigjejahaa
open Go.RowKit Go.BigFrame

def divErr (aw av bw bv : Int) : Int := firstE [bErr aw av, bErr bw bv, eIf (aw != bw) 25, eIf (bv == 0) 11]
theorem div_twin (aw av bw bv : Int) : divErr aw av bw bv = if twinErr aw av bw bv = 0 then eIf (bv == 0) 11 else twinErr aw av bw bv := by
  unfold divErr twinErr
  by_cases h1 : bErr aw av = 0 <;> by_cases h2 : bErr bw bv = 0 <;> by_cases h3 : eIf (aw != bw) 25 = 0 <;> simp [firstE, h1, h2, h3]
  all_goals (intro h; exact h.symm)
theorem mul_pair (aw av bw bv : Int) : mulErr aw av bw bv = if pairErr aw av bw bv = 0 then eIf (decide (16 < wrap64 (aw + bw))) 8 else pairErr aw av bw bv := by
  unfold mulErr pairErr
  by_cases h1 : bErr aw av = 0 <;> by_cases h2 : bErr bw bv = 0 <;> simp [firstE, h1, h2]
  all_goals (intro h; exact h.symm)
theorem divErr_ok {aw av bw bv : Int} : divErr aw av bw bv = 0 ↔ (1 ≤ aw ∧ aw ≤ 16 ∧ 0 ≤ av ∧ av < pw aw) ∧ (0 ≤ bv ∧ bv < pw aw) ∧ aw = bw ∧ bv ≠ 0 := by
  unfold divErr
  rw [firstE_nil]
  simp only [List.mem_cons, List.not_mem_nil, or_false, forall_eq_or_imp, forall_eq, eIf_zero (show (25 : Int) ≠ 0 by decide), eIf_zero (show (11 : Int) ≠ 0 by decide), bErr_ok]
  constructor
  · rintro ⟨h1, h2, h3, h4⟩
    have e : aw = bw := by simpa using h3
    subst e
    exact ⟨h1, ⟨h2.2.2.1, h2.2.2.2⟩, rfl, by simpa using h4⟩
  · rintro ⟨h1, h2, rfl, h4⟩
    exact ⟨h1, ⟨h1.1, h1.2.1, h2.1, h2.2⟩, by simp, by simpa using h4⟩
theorem tdiv_bd {a b : Int} (ha : 0 ≤ a) (hb : 0 < b) : 0 ≤ a.tdiv b ∧ a.tdiv b ≤ a ∧ 0 ≤ a % b ∧ a % b < b ∧ a.tdiv b * b + a % b = a := by
  rw [Int.tdiv_eq_ediv_of_nonneg ha]
  have h1 := Int.emod_nonneg a (Int.ne_of_gt hb)
  have h2 := Int.emod_lt_of_pos a hb
  have h3 := Int.mul_ediv_add_emod a b
  have h4 : 0 ≤ a / b := Int.ediv_nonneg ha (by omega)
  have h5 : a / b ≤ a := Int.ediv_le_self b ha
  rw [Int.mul_comm] at h3
  exact ⟨h4, h5, h1, h2, h3⟩

theorem MulErr_c (aw av bw bv : Int) (w : World) :
    Calls Try.prog 23 #[.agg #[.int .i64 aw, .int .i64 av], .agg #[.int .i64 bw, .int .i64 bv]] w fun e w' => e = .returned (.int .i64 (mulErr aw av bw bv)) ∧ ∃ x : Aft w, w' = x.val := by
  by_cases h : pairErr aw av bw bv = 0
  · have hs := Lib.hid (mul_pair aw av bw bv)
    have H := Lib.hid h
    clear h
    cases hb : decide (16 < wrap64 (aw + bw))
    all_goals
      go_enter Try.func23, Try.ntmps23
      go_wp2_with fail
      refine (PairErr_c aw av bw bv _).mono ?_
      rw [H.out]
      rintro e w' ⟨rfl, x, rfl⟩
      go_wp2
      go_ret
      exact ⟨retI (by rw [hs.out, if_pos H.out, hb]; rfl), Below.aft (by (repeat' (first | (with_reducible exact Below.refl _ _) | (with_reducible refine Below.alloc ?_ ?_ _) | (with_reducible refine Below.drew ?_) | (with_reducible refine Aft.below _ ?_ ?_) | (with_reducible refine Below.setCell_new ?_ ?_ _ _) | (with_reducible exact Nat.le_refl _) | (with_reducible refine Aft.le _ ?_) | (with_reducible refine le_alloc ?_) | (with_reducible refine le_drew ?_) | (with_reducible refine le_setCell ?_) | omega)))⟩
  · have hs := Lib.hid (mul_pair aw av bw bv)
    have h' : (pairErr aw av bw bv == 0) = false := by simpa using h
    have H := Lib.hid h
    clear h
    go_enter Try.func23, Try.ntmps23
    go_wp2_with fail
    refine (PairErr_c aw av bw bv _).mono ?_
    rintro e w' ⟨rfl, x, rfl⟩
    go_wp2
    go_ret
    exact ⟨retI (by rw [hs.out, if_neg H.out]), Below.aft (by (repeat' (first | (with_reducible exact Below.refl _ _) | (with_reducible refine Below.alloc ?_ ?_ _) | (with_reducible refine Below.drew ?_) | (with_reducible refine Aft.below _ ?_ ?_) | (with_reducible refine Below.setCell_new ?_ ?_ _ _) | (with_reducible exact Nat.le_refl _) | (with_reducible refine Aft.le _ ?_) | (with_reducible refine le_alloc ?_) | (with_reducible refine le_drew ?_) | (with_reducible refine le_setCell ?_) | omega)))⟩

theorem DivErr_c (aw av bw bv : Int) (w : World) :
    Calls Try.prog 24 #[.agg #[.int .i64 aw, .int .i64 av], .agg #[.int .i64 bw, .int .i64 bv]] w fun e w' => e = .returned (.int .i64 (divErr aw av bw bv)) ∧ ∃ x : Aft w, w' = x.val := by
  by_cases h : twinErr aw av bw bv = 0
  · have hs := Lib.hid (div_twin aw av bw bv)
    have H := Lib.hid h
    clear h
    cases hb : (bv == 0)
    all_goals
      go_enter Try.func24, Try.ntmps24
      go_wp2_with fail
      refine (TwinErr_c aw av bw bv _).mono ?_
      rw [H.out]
      rintro e w' ⟨rfl, x, rfl⟩
      go_wp2
      go_ret
      exact ⟨retI (by rw [hs.out, if_pos H.out, hb]; rfl), Below.aft (by (repeat' (first | (with_reducible exact Below.refl _ _) | (with_reducible refine Below.alloc ?_ ?_ _) | (with_reducible refine Below.drew ?_) | (with_reducible refine Aft.below _ ?_ ?_) | (with_reducible refine Below.setCell_new ?_ ?_ _ _) | (with_reducible exact Nat.le_refl _) | (with_reducible refine Aft.le _ ?_) | (with_reducible refine le_alloc ?_) | (with_reducible refine le_drew ?_) | (with_reducible refine le_setCell ?_) | omega)))⟩
  · have hs := Lib.hid (div_twin aw av bw bv)
    have h' : (twinErr aw av bw bv == 0) = false := by simpa using h
    have H := Lib.hid h
    clear h
    go_enter Try.func24, Try.ntmps24
    go_wp2_with fail
    refine (TwinErr_c aw av bw bv _).mono ?_
    rintro e w' ⟨rfl, x, rfl⟩
    go_wp2
    go_ret
    exact ⟨retI (by rw [hs.out, if_neg H.out]), Below.aft (by (repeat' (first | (with_reducible exact Below.refl _ _) | (with_reducible refine Below.alloc ?_ ?_ _) | (with_reducible refine Below.drew ?_) | (with_reducible refine Aft.below _ ?_ ?_) | (with_reducible refine Below.setCell_new ?_ ?_ _ _) | (with_reducible exact Nat.le_refl _) | (with_reducible refine Aft.le _ ?_) | (with_reducible refine le_alloc ?_) | (with_reducible refine le_drew ?_) | (with_reducible refine le_setCell ?_) | omega)))⟩


theorem DivMod_bad (aw av bw bv : Int) (er : Int) (w : World) (hn : er ≠ 0) (h9 : Hid (divErr aw av bw bv = er)) :
    Calls Try.prog 21 #[.agg #[.int .i64 aw, .int .i64 av], .agg #[.int .i64 bw, .int .i64 bv]] w fun e w' => e = .returned (.tuple #[.agg #[.int .i64 0, .int .i64 0], .agg #[.int .i64 0, .int .i64 0], .int .i64 er]) ∧ ∃ x : Aft w, w' = x.val := by
  have hn' : (er == 0) = false := by simpa using hn
  go_enter Try.func21, Try.ntmps21
  go_wp2_with fail
  refine wp_region_aft_tail 14 (by kernel_rfl) (by kernel_rfl) ?_
  simp only [List.take_succ_cons, List.take_zero, List.drop_succ_cons, List.drop_zero]
  repeat (go_big_quiet_step (first | (go_at_call 65; exact Calls.qs (errorIf_c _ _ _)) | (go_at_call 14; exact Calls.qa (CheckBits_c _ _ _))))
  refine wpQuiet_nil ?_
  intro x1
  have zx1_0 : w.heap.size < x1.val.heap.size := by have := x1.size; (try simp at this); omega
  have zx1_1 : w.heap.size + 1 < x1.val.heap.size := by have := x1.size; (try simp at this); omega
  have zx1_2 : w.heap.size + 1 + 1 < x1.val.heap.size := by have := x1.size; (try simp at this); omega
  have zx1_3 : w.heap.size + 1 + 1 + 1 < x1.val.heap.size := by have := x1.size; (try simp at this); omega
  go_wp2_with fail
  refine (firstError4 _ _ _ _ _ _ _ _ (by exact heap_alloc_at (by simp [go_sem]))).mono ?_
  rw [show firstE [bErr aw av, bErr bw bv, eIf (aw != bw) 25, eIf (bv == 0) 11] = er from h9.out]
  rintro e w' ⟨rfl, rfl⟩
  go_wp2
  refine bodyPost_ret (by simp [results, Try.results21, go_sem]; try rfl) rfl ?_
  exact ⟨rfl, Below.aft (by (repeat' (first | (with_reducible exact Below.refl _ _) | (with_reducible refine Below.alloc ?_ ?_ _) | (with_reducible refine Below.drew ?_) | (with_reducible refine Aft.below _ ?_ ?_) | (with_reducible refine Below.setCell_new ?_ ?_ _ _) | (with_reducible exact Nat.le_refl _) | (with_reducible refine Aft.le _ ?_) | (with_reducible refine le_alloc ?_) | (with_reducible refine le_drew ?_) | (with_reducible refine le_setCell ?_) | omega)))⟩

set_option maxRecDepth 20000 in
set_option maxHeartbeats 800000 in
theorem DivMod_c (aw av bw bv : Int) (w : World) (h9 : Hid (divErr aw av bw bv = 0)) :
    Calls Try.prog 21 #[.agg #[.int .i64 aw, .int .i64 av], .agg #[.int .i64 bw, .int .i64 bv]] w fun e w' => e = .returned (.tuple #[.agg #[.int .i64 aw, .int .i64 (av.tdiv bv)], .agg #[.int .i64 aw, .int .i64 (av % bv)], .int .i64 0]) ∧ ∃ x : Aft w, w' = x.val := by
  obtain ⟨⟨a1, a2, a3, a4⟩, ⟨b1, b2⟩, -, b3⟩ := divErr_ok.1 h9
  have hp := pw_bd (n := aw) (by omega) a2
  obtain ⟨t1, t2, t3, t4, -⟩ := tdiv_bd (a := av) (b := bv) a3 (by omega)
  have b3' : (bv == 0) = false := by simpa using b3
  have h9' : Hid (firstE [bErr aw av, bErr bw bv, eIf (aw != bw) 25, eIf false 11] = 0) := by
    have h := h9.out; rw [divErr, b3'] at h; exact h
  clear h9
  go_enter Try.func21, Try.ntmps21
  go_wp2_with fail
  refine wp_region_aft_tail 14 (by kernel_rfl) (by kernel_rfl) ?_
  simp only [List.take_succ_cons, List.take_zero, List.drop_succ_cons, List.drop_zero]
  repeat (go_big_quiet_step (first | (go_at_call 65; exact Calls.qs (errorIf_c _ _ _)) | (go_at_call 14; exact Calls.qa (CheckBits_c _ _ _))))
  refine wpQuiet_nil ?_
  intro x1
  have zx1_0 : w.heap.size < x1.val.heap.size := by have := x1.size; (try simp at this); omega
  have zx1_1 : w.heap.size + 1 < x1.val.heap.size := by have := x1.size; (try simp at this); omega
  have zx1_2 : w.heap.size + 1 + 1 < x1.val.heap.size := by have := x1.size; (try simp at this); omega
  have zx1_3 : w.heap.size + 1 + 1 + 1 < x1.val.heap.size := by have := x1.size; (try simp at this); omega
  go_wp2_with fail
  refine (firstError4 _ _ _ _ _ _ _ _ (by exact heap_alloc_at (by simp [go_sem]))).mono ?_
  rw [h9'.out]
  rintro e W' ⟨rfl, hW⟩
  have rr0 : W'.heap[w.heap.size]? = some (.cells #[.int .i64 aw, .int .i64 av] 23) := by rw [← hW]; (repeat' (first | (with_reducible assumption) | omega | (simp only [World.size_alloc, World.size_drew, World.size_setCell]; omega) | (refine heap_alloc_at ?_; (first | rfl | (simp; done))) | (with_reducible refine heap_aft _ ?_ ?_) | (with_reducible refine heap_alloc' ?_ ?_) | (with_reducible refine heap_drew ?_)))
  have q00 := cell_block (i := 0) rr0
  have f00 := free_block (i := 0) rr0
  have q01 := cell_block (i := 1) rr0
  have f01 := free_block (i := 1) rr0
  have rr1 : W'.heap[w.heap.size + 1]? = some (.cells #[.int .i64 bw, .int .i64 bv] 23) := by rw [← hW]; (repeat' (first | (with_reducible assumption) | omega | (simp only [World.size_alloc, World.size_drew, World.size_setCell]; omega) | (refine heap_alloc_at ?_; (first | rfl | (simp; done))) | (with_reducible refine heap_aft _ ?_ ?_) | (with_reducible refine heap_alloc' ?_ ?_) | (with_reducible refine heap_drew ?_)))
  have q10 := cell_block (i := 0) rr1
  have f10 := free_block (i := 0) rr1
  have q11 := cell_block (i := 1) rr1
  have f11 := free_block (i := 1) rr1
  have rr2 : W'.heap[w.heap.size + 1 + 1]? = some (.cells #[.int .i64 0, .int .i64 0] 23) := by rw [← hW]; (repeat' (first | (with_reducible assumption) | omega | (simp only [World.size_alloc, World.size_drew, World.size_setCell]; omega) | (refine heap_alloc_at ?_; (first | rfl | (simp; done))) | (with_reducible refine heap_aft _ ?_ ?_) | (with_reducible refine heap_alloc' ?_ ?_) | (with_reducible refine heap_drew ?_)))
  have q20 := cell_block (i := 0) rr2
  have f20 := free_block (i := 0) rr2
  have q21 := cell_block (i := 1) rr2
  have f21 := free_block (i := 1) rr2
  have rr3 : W'.heap[w.heap.size + 1 + 1 + 1]? = some (.cells #[.int .i64 0, .int .i64 0] 23) := by rw [← hW]; (repeat' (first | (with_reducible assumption) | omega | (simp only [World.size_alloc, World.size_drew, World.size_setCell]; omega) | (refine heap_alloc_at ?_; (first | rfl | (simp; done))) | (with_reducible refine heap_aft _ ?_ ?_) | (with_reducible refine heap_alloc' ?_ ?_) | (with_reducible refine heap_drew ?_)))
  have q30 := cell_block (i := 0) rr3
  have f30 := free_block (i := 0) rr3
  have q31 := cell_block (i := 1) rr3
  have f31 := free_block (i := 1) rr3
  simp at q00 q01 q10 q11 q20 q21 q30 q31
  clear rr0
  clear rr1
  clear rr2
  clear rr3
  have hb0' : Below w.heap.size w W' := by rw [← hW]; (repeat' (first | (with_reducible exact Below.refl _ _) | (with_reducible refine Below.alloc ?_ ?_ _) | (with_reducible refine Below.drew ?_) | (with_reducible refine Aft.below _ ?_ ?_) | (with_reducible refine Below.setCell_new ?_ ?_ _ _) | (with_reducible exact Nat.le_refl _) | (with_reducible refine Aft.le _ ?_) | (with_reducible refine le_alloc ?_) | (with_reducible refine le_drew ?_) | (with_reducible refine le_setCell ?_) | omega))
  have s0 : w.heap.size < W'.heap.size := by rw [← hW]; simp only [World.size_alloc, World.size_drew, World.size_setCell]; omega
  have s1 : w.heap.size + 1 < W'.heap.size := by rw [← hW]; simp only [World.size_alloc, World.size_drew, World.size_setCell]; omega
  have s2 : w.heap.size + 1 + 1 < W'.heap.size := by rw [← hW]; simp only [World.size_alloc, World.size_drew, World.size_setCell]; omega
  have s3 : w.heap.size + 1 + 1 + 1 < W'.heap.size := by rw [← hW]; simp only [World.size_alloc, World.size_drew, World.size_setCell]; omega
  clear hW
  clear zx1_0 zx1_1 zx1_2 zx1_3
  go_wp2_with fail
  go_region
  go_wp2_with fail
  go_region
  go_wp2_with fail
  go_region
  all_goals
    have t2 : w.heap.size + 1 + 1 < W'.heap.size + 1 := by omega
    have t3 : w.heap.size + 1 + 1 + 1 < W'.heap.size + 1 := by omega
    go_wp2
    refine bodyPost_ret (by simp [results, Try.results21, go_sem, q20, q21, q30, q31, s2, s3, t2, t3]; try rfl) rfl ?_
    exact ⟨rfl, Below.aft (by (repeat' (first | (with_reducible exact Below.refl _ _) | (with_reducible assumption) | (with_reducible refine Below.alloc ?_ ?_ _) | (with_reducible refine Below.drew ?_) | (with_reducible refine Aft.below _ ?_ ?_) | (with_reducible refine Below.setCell_new ?_ ?_ _ _) | (with_reducible exact Nat.le_refl _) | (with_reducible refine Aft.le _ ?_) | (with_reducible refine le_alloc ?_) | (with_reducible refine le_drew ?_) | (with_reducible refine le_setCell ?_) | omega)))⟩

theorem md_sg {wd v : Int} (h1 : 1 ≤ wd) (h2 : 0 ≤ v) (h3 : v < pw wd) : md (sg wd v) (pw wd) = v := by
  rw [sg_eq h1 h2 h3]; unfold md
  split
  · rw [← Int.add_emod_right, Int.sub_add_cancel]; exact Int.emod_eq_of_lt h2 h3
  · exact Int.emod_eq_of_lt h2 h3
theorem sg_win {wd n : Int} (h1 : 1 ≤ wd) : (sg wd (md n (pw wd)) != n) = !(win n (-pw (wd - 1)) (pw (wd - 1) - 1)) := by
  have hq := pw_pos (wd - 1)
  have hh := pw_half h1
  have hm := md_bd n (pw_pos wd)
  rw [sg_eq h1 hm.1 hm.2]
  unfold win
  by_cases hw : -pw (wd - 1) ≤ n ∧ n ≤ pw (wd - 1) - 1
  · have e : (if pw (wd - 1) ≤ md n (pw wd) then md n (pw wd) - pw wd else md n (pw wd)) = n := by
      by_cases hn : 0 ≤ n
      · have : md n (pw wd) = n := Int.emod_eq_of_lt hn (by omega)
        rw [this, if_neg (by omega)]
      · have : md n (pw wd) = n + pw wd := by
          unfold md; rw [← Int.add_emod_right]; exact Int.emod_eq_of_lt (by omega) (by omega)
        rw [this, if_pos (by omega)]; omega
    rw [e]; simp [hw.1, hw.2]
  · have e : (if pw (wd - 1) ≤ md n (pw wd) then md n (pw wd) - pw wd else md n (pw wd)) ≠ n := by
      intro e; apply hw; split at e <;> omega
    have e1 : ((if pw (wd - 1) ≤ md n (pw wd) then md n (pw wd) - pw wd else md n (pw wd)) != n) = true := by simpa using e
    rw [e1]
    by_cases h0 : -pw (wd - 1) ≤ n
    · have : ¬ n ≤ pw (wd - 1) - 1 := fun h => hw ⟨h0, h⟩
      simp [this]
    · simp [h0]
def fsErr (n wd : Int) : Int := if isW wd then eIf (sg wd (md n (pw wd)) != n) 2 else 25


theorem FromSigned_bad (n wd : Int) (er : Int) (w : World) (hn : er ≠ 0) (h9 : Hid (fsErr n wd = er)) :
    Calls Try.prog 57 #[.int .i64 n, .int .i64 wd] w fun e w' => e = .returned (.tuple #[.agg #[.int .i64 0, .int .i64 0], .int .i64 er]) ∧ ∃ x : Aft w, w' = x.val := by
  cases hw : isW wd
  · have he : er = 25 := by have h := h9.out; rw [fsErr, hw] at h; exact h.symm
    subst he
    clear h9
    go_enter Try.func57, Try.ntmps57
    go_wp2_with fail
    refine (isWidth_c wd _).mono ?_
    rw [hw]
    rintro e w' ⟨rfl, rfl⟩
    go_wp2
    refine bodyPost_ret (by simp [results, Try.results57, go_sem]; try rfl) rfl ?_
    exact ⟨rfl, Below.aft (by (repeat' (first | (with_reducible exact Below.refl _ _) | (with_reducible refine Below.alloc ?_ ?_ _) | (with_reducible refine Below.drew ?_) | (with_reducible refine Aft.below _ ?_ ?_) | (with_reducible refine Below.setCell_new ?_ ?_ _ _) | (with_reducible exact Nat.le_refl _) | (with_reducible refine Aft.le _ ?_) | (with_reducible refine le_alloc ?_) | (with_reducible refine le_drew ?_) | (with_reducible refine le_setCell ?_) | omega)))⟩
  · obtain ⟨h1, h2⟩ := isW_iff.1 hw
    have hm := md_bd n (pw_pos wd)
    have hp := pw_bd (n := wd) (by omega) h2
    have h : eIf (sg wd (md n (pw wd)) != n) 2 = er := by have h := h9.out; rw [fsErr, hw] at h; exact h
    have hs : (sg wd (md n (pw wd)) == n) = false := by
      cases hc : (sg wd (md n (pw wd)) == n)
      · rfl
      · exfalso; apply hn; rw [← h, bne, hc]; rfl
    have he : er = 2 := by rw [← h, bne, hs]; rfl
    subst he
    clear h9 h hn
    go_enter Try.func57, Try.ntmps57
    go_wp2_with fail
    refine (isWidth_c wd _).mono ?_
    rw [hw]
    rintro e w' ⟨rfl, rfl⟩
    go_wp2_with fail
    refine (wrapped_c n wd (by omega) (by omega) _).mono ?_
    rintro e w' ⟨rfl, x1, rfl⟩
    have zx1_0 : w.heap.size < x1.val.heap.size := by have := x1.size; (try simp at this); omega
    go_wp2_with fail
    refine (signed_c wd (md n (pw wd)) (by omega) (by omega) (by omega) (by omega) _).mono ?_
    rintro e w' ⟨rfl, x2, rfl⟩
    have zx2_0 : w.heap.size < x2.val.heap.size := by have := x2.size; (try simp at this); omega
    have zx2_1 : x1.val.heap.size < x2.val.heap.size := by have := x2.size; (try simp at this); omega
    go_wp2
    refine bodyPost_ret (by simp [results, Try.results57, go_sem]; try rfl) rfl ?_
    exact ⟨rfl, Below.aft (by (repeat' (first | (with_reducible exact Below.refl _ _) | (with_reducible refine Below.alloc ?_ ?_ _) | (with_reducible refine Below.drew ?_) | (with_reducible refine Aft.below _ ?_ ?_) | (with_reducible refine Below.setCell_new ?_ ?_ _ _) | (with_reducible exact Nat.le_refl _) | (with_reducible refine Aft.le _ ?_) | (with_reducible refine le_alloc ?_) | (with_reducible refine le_drew ?_) | (with_reducible refine le_setCell ?_) | omega)))⟩


theorem FromSigned_c (n wd : Int) (w : World) (h9 : Hid (fsErr n wd = 0)) :
    Calls Try.prog 57 #[.int .i64 n, .int .i64 wd] w fun e w' => e = .returned (.tuple #[.agg #[.int .i64 wd, .int .i64 (md n (pw wd))], .int .i64 0]) ∧ ∃ x : Aft w, w' = x.val := by
  cases hw : isW wd
  · exfalso; have h := h9.out; rw [fsErr, hw, if_neg (by decide)] at h; exact absurd h (by decide)
  · obtain ⟨h1, h2⟩ := isW_iff.1 hw
    have hm := md_bd n (pw_pos wd)
    have hp := pw_bd (n := wd) (by omega) h2
    have h : eIf (sg wd (md n (pw wd)) != n) 2 = 0 := by have h := h9.out; rw [fsErr, hw] at h; exact h
    have hs : sg wd (md n (pw wd)) = n := by simpa using (eIf_zero (by decide)).1 h
    have Hs := Lib.hid hs
    clear h9 h hs
    go_enter Try.func57, Try.ntmps57
    go_wp2_with fail
    refine (isWidth_c wd _).mono ?_
    rw [hw]
    rintro e w' ⟨rfl, rfl⟩
    go_wp2_with fail
    refine (wrapped_c n wd (by omega) (by omega) _).mono ?_
    rintro e w' ⟨rfl, x1, rfl⟩
    have zx1_0 : w.heap.size < x1.val.heap.size := by have := x1.size; (try simp at this); omega
    go_wp2_with fail
    refine (signed_c wd (md n (pw wd)) (by omega) (by omega) (by omega) (by omega) _).mono ?_
    rw [Hs.out]
    rintro e w' ⟨rfl, x2, rfl⟩
    have zx2_0 : w.heap.size < x2.val.heap.size := by have := x2.size; (try simp at this); omega
    have zx2_1 : x1.val.heap.size < x2.val.heap.size := by have := x2.size; (try simp at this); omega
    go_wp2
    refine bodyPost_ret (by simp [results, Try.results57, go_sem]; try rfl) rfl ?_
    exact ⟨rfl, Below.aft (by (repeat' (first | (with_reducible exact Below.refl _ _) | (with_reducible refine Below.alloc ?_ ?_ _) | (with_reducible refine Below.drew ?_) | (with_reducible refine Aft.below _ ?_ ?_) | (with_reducible refine Below.setCell_new ?_ ?_ _ _) | (with_reducible exact Nat.le_refl _) | (with_reducible refine Aft.le _ ?_) | (with_reducible refine le_alloc ?_) | (with_reducible refine le_drew ?_) | (with_reducible refine le_setCell ?_) | omega)))⟩


theorem fsErr_back {wd v : Int} (h1 : 1 ≤ wd) (h2 : wd ≤ 16) (h3 : 0 ≤ v) (h4 : v < pw wd) : fsErr (sg wd v) wd = 0 := by
  rw [fsErr, isW_true h1 h2, md_sg h1 h3 h4]; simp [eIf]

theorem SignedErr_c (n wd : Int) (w : World) :
    Calls Try.prog 58 #[.int .i64 n, .int .i64 wd] w fun e w' => e = .returned (.int .i64 (fsErr n wd)) ∧ w = w' := by
  cases hw : isW wd
  · have he : fsErr n wd = 25 := by rw [fsErr, hw]; rfl
    rw [he]
    go_enter Try.func58, Try.ntmps58
    go_wp2_with (first | (go_at_call 67; refine (IsWidth_c _ _).mono ?_; rintro e w' ⟨rfl, rfl⟩) | (go_at_call 20; refine (Power_c _ (by omega) (by omega) _).mono ?_; rintro e w' ⟨rfl, rfl⟩) | (go_at_call 38; refine (Within_c _ _ _ _).mono ?_; rintro e w' ⟨rfl, rfl⟩))
    go_ret
    exact ⟨rfl, rfl⟩
  · obtain ⟨h1, h2⟩ := isW_iff.1 hw
    have he : fsErr n wd = eIf (!(win n (-pw (wd - 1)) (pw (wd - 1) - 1))) 2 := by rw [fsErr, hw, sg_win h1]; rfl
    have He := Lib.hid he
    clear he
    have hp := pw_bd (n := wd - 1) (by omega) (by omega)
    cases hb : win n (-pw (wd - 1)) (pw (wd - 1) - 1)
    all_goals
      go_enter Try.func58, Try.ntmps58
      go_wp2_with (first | (go_at_call 67; refine (IsWidth_c _ _).mono ?_; rintro e w' ⟨rfl, rfl⟩) | (go_at_call 20; refine (Power_c _ (by omega) (by omega) _).mono ?_; rintro e w' ⟨rfl, rfl⟩) | (go_at_call 38; refine (Within_c _ _ _ _).mono ?_; rintro e w' ⟨rfl, rfl⟩))
      go_ret
      exact ⟨retI (by rw [He.out, hb]; rfl), rfl⟩

end Go.Proofs.Ytlplphigjejahaa
